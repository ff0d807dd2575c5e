/-
  'CostOf' of the model.
-/
import Derived.Test.YthlbmkefjjckaacGrCostI
import Derived.Test.YthlbmkefjjckaacGrEdge
namespace Go.Proofs.Ythlbmkefjjckaac
open Go.RowKit
set_option linter.unusedVariables false
attribute [local go_sem] Oper.semAt_some wide_fn

theorem okC_all (l : List EdD) (ws : List Int) : ∀ m, okC l ws m = true → ∀ j, j < m → stepC l ws j ≠ 0
  | 0, _, j, hj => by omega
  | m + 1, h, j, hj => by
    rw [okC, Bool.and_eq_true] at h
    by_cases e : j = m
    · rw [e]; exact of_decide_eq_true h.2
    · exact okC_all l ws m h.1 j (by omega)
theorem okC_fit {n : Int} {l : List EdD} (hf : FitEd n l) (ws : List Int) (h0 : 0 ≤ ws.getD 0 0 ∧ ws.getD 0 0 < n) (h : okC l ws (ws.length - 1) = true) : ∀ j, j < ws.length → 0 ≤ ws.getD j 0 ∧ ws.getD j 0 < n
  | 0, _ => h0
  | j + 1, hj => by
    have := okC_all l ws _ h j (by omega)
    unfold stepC at this
    rcases costB_is hf (ws.getD j 0) (ws.getD (j + 1) 0) with ⟨h1, -⟩ | h1
    · exact absurd h1 this
    · exact (h1.fit hf).2.1
def inR (hi : Int) (zs : List Int) : Bool := zs.all fun x => decide (0 ≤ x ∧ x ≤ hi)
theorem inR_take (hi : Int) (zs : List Int) (k : Nat) (h : k < zs.length) : inR hi (zs.take (k + 1)) = (inR hi (zs.take k) && decide (0 ≤ zs[k] ∧ zs[k] ≤ hi)) := by
  unfold inR
  rw [List.take_succ_eq_append_getElem h, List.all_append]
  simp
theorem inR_no (hi : Int) (zs : List Int) (k : Nat) (h : k < zs.length) (hx : ¬ (0 ≤ zs[k] ∧ zs[k] ≤ hi)) : inR hi zs = false := by
  unfold inR
  rw [Bool.eq_false_iff]
  intro e
  exact hx (of_decide_eq_true (List.all_eq_true.1 e zs[k] (List.getElem_mem h)))
theorem pathOk_eq {n : Int} {l : List EdD} (ws : List Int) (hg : goodEd n l = true) (hl : 1 ≤ ws.length ∧ ws.length ≤ 12) : pathOk n l ws = (inR (n - 1) ws && okC l ws (ws.length - 1)) := by
  unfold pathOk
  rw [hg, decide_eq_true hl, Bool.true_and, Bool.true_and]
  obtain ⟨g1, g2, g3, g4⟩ := goodEd_true hg
  cases ho : okC l ws (ws.length - 1) with
  | false => rw [Bool.and_false, Bool.and_false]
  | true =>
    rw [Bool.and_true, Bool.and_true]
    by_cases h0 : 0 ≤ ws.getD 0 0 ∧ ws.getD 0 0 < n
    · rw [decide_eq_true h0]
      symm
      unfold inR
      rw [List.all_eq_true]
      intro x hx
      obtain ⟨j, hj, rfl⟩ := List.getElem_of_mem hx
      have := okC_fit g3 ws h0 ho j hj
      rw [getD_atC ws j hj] at this
      exact decide_eq_true ⟨this.1, by omega⟩
    · rw [decide_eq_false h0]
      symm
      refine inR_no _ ws 0 (by omega) fun q => h0 ?_
      rw [getD_atC ws 0 (by omega)]
      omega

set_option maxRecDepth 100000 in
set_option maxHeartbeats 2000000 in
theorem l1AllR_any (W : World) (B : Nat) (u : Value) (zs : List Int) (hi : Int) (hu : Own W B u zs) (hl : zs.length ≤ 1048576) :
    Calls Try.prog 98 #[u, .int .i64 0, .int .i64 hi] W fun e W' => e = .returned (.bool (inR hi zs)) ∧ W' = W := by
  have HU : Hid (Own W B u zs) := hu
  obtain ⟨af, cf, rfl⟩ := hu.shape
  clear hu
  go_enter Try.func98, Try.ntmps98
  go_wp2
  go_loop [11] (fun i => ∃ k : Nat, k ≤ zs.length ∧ i = .int .i64 k ∧ Hid (inR hi (zs.take k) = true)) (fun i => zs.length - (intOf i).toNat)
  case atStart => exact ⟨0, Nat.zero_le _, rfl, rfl⟩
  case round =>
    obtain ⟨k, hk, rfl, HI⟩ := hrel
    by_cases hlt : k < zs.length
    · have hlt' : (k : Int) < (zs.length : Int) := by omega
      obtain ⟨g, rfl, hcell⟩ : ∃ g, af = some ⟨g, 0, none⟩ ∧ W.cell? ⟨g, k, none⟩ = some (.int .i64 zs[k]) := by
        have ho := HU.out
        rcases HU.out.2 with ⟨hv, h0⟩ | ⟨g, cap, cur, hv, -⟩
        · omega
        · cases hv
          exact ⟨g, rfl, own_cellG ho rfl k hlt⟩
      have HNO : Hid (¬ (0 ≤ zs[k] ∧ zs[k] ≤ hi) → inR hi zs = false) := inR_no hi zs k hlt
      have HTK : Hid (inR hi (zs.take (k + 1)) = (inR hi (zs.take k) && decide (0 ≤ zs[k] ∧ zs[k] ≤ hi))) := inR_take hi zs k hlt
      generalize zs[k] = x at *
      cases hd : decide (0 ≤ x ∧ x ≤ hi) with
      | false =>
        have HF : Hid (false = inR hi zs) := (HNO.out (of_decide_eq_false hd)).symm
        clear HI HTK HNO
        go_wp2_with fail
        refine (l1In_any x 0 hi W).mono ?_
        rintro e ww ⟨rfl, hww⟩
        obtain rfl := hww
        rw [hd]
        go_wp2
        go_ret
        exact ⟨congrArg (fun q => Ending.returned (Value.bool q)) HF.out, rfl⟩
      | true =>
        have HF : Hid (inR hi (zs.take (k + 1)) = true) := by
          show _ = _
          rw [HTK.out, HI.out, Bool.true_and, hd]
        clear HI HTK HNO
        go_wp2_with fail
        refine (l1In_any x 0 hi W).mono ?_
        rintro e ww ⟨rfl, hww⟩
        obtain rfl := hww
        rw [hd]
        go_wp2
        go_round
        case rel => exact ⟨k + 1, by omega, by go_num, HF.out⟩
        case measure => simp [intOf]; omega
    · have e : k = zs.length := by omega
      have HF : Hid (true = inR hi zs) := by
        have h0 := HI.out
        rw [e, List.take_length] at h0
        exact h0.symm
      clear HI
      subst e
      go_wp2
      go_ret
      exact ⟨congrArg (fun q => Ending.returned (Value.bool q)) HF.out, rfl⟩

set_option maxRecDepth 100000 in
set_option maxHeartbeats 8000000 in
theorem specCostOf_any (W : World) (B : Nat) (v u : Value) (n : Int) (l : List EdD) (ws : List Int) (h : ReadsEd W v l) (hu : Own W B u ws) (hl : l.length ≤ 2097152) (hwl : ws.length ≤ 1048576) :
    Calls Try.prog 70 #[.int .i64 n, v, u] W (CostPost W (pathCost n l ws) (pathOk n l ws)) := by
  have CG : Hid (Calls Try.prog 91 #[.int .i64 n, v] W fun e W' => e = .returned (.bool (goodEd n l)) ∧ Below W.heap.size W W') := specGoodEd_any W v n l h hl
  have HRD : Hid (∀ w', Since W.heap.size W w' → ReadsEd w' v l) := fun w' hs => h.below hs.1
  have HUD : Hid (∀ w', Since W.heap.size W w' → Own w' B u ws) := fun w' hs => hu.below hs.1
  have HS0 : Hid (Since W.heap.size W W) := Since.start W
  obtain ⟨a1, c1, rfl⟩ := h.shape
  obtain ⟨aw, cw, rfl⟩ := hu.shape
  have CA : Hid (∀ w', Since W.heap.size W w' → Calls Try.prog 98 #[.slice aw ws.length cw, .int .i64 0, .int .i64 (n - 1)] w' fun e w2 => e = .returned (.bool (inR (n - 1) ws)) ∧ w2 = w') := fun w' hs => l1AllR_any w' B _ ws (n - 1) (HUD.out w' hs) hwl
  have HD : Hid (pathOk n l ws = (goodEd n l && decide (1 ≤ ws.length ∧ ws.length ≤ 12) && decide (0 ≤ ws.getD 0 0 ∧ ws.getD 0 0 < n) && okC l ws (ws.length - 1)) ∧ (pathCost n l ws = if pathOk n l ws then sumC l ws (ws.length - 1) else 0) ∧ (goodEd n l = true → (1 ≤ ws.length ∧ ws.length ≤ 12) → pathOk n l ws = (inR (n - 1) ws && okC l ws (ws.length - 1)))) := ⟨rfl, rfl, fun hg hl => pathOk_eq ws hg hl⟩
  generalize pathOk n l ws = ok at *
  generalize pathCost n l ws = out at *
  clear h hu
  cases hg : goodEd n l with
  | false =>
    have HF : Hid (ok = false ∧ out = 0) := by
      have h1 : ok = false := HD.out.1.trans (by rw [hg]; rfl)
      exact ⟨h1, HD.out.2.1.trans (by rw [h1]; rfl)⟩
    rw [hg] at CG
    clear hg HD HUD HRD CA
    go_enter Try.func70, Try.ntmps70
    go_wp2_with fail
    refine CG.out.mono ?_
    rintro e w1 ⟨rfl, hb1⟩
    have HB1 : Hid (Below W.heap.size W w1) := hb1
    clear hb1
    go_wp2
    refine bodyPost_ret (results_tmp2 rfl _ _ _) rfl ?_
    exact ⟨by rw [HF.out.1, HF.out.2]; rfl, HB1.out⟩
  | true =>
    have HGT : Hid ((1 ≤ n ∧ n ≤ 12) ∧ l.length ≤ 40 ∧ FitEd n l ∧ RiseEd l) := goodEd_true hg
    rw [hg] at CG
    have hu : IntKind.i64.wrap (n - 1) = n - 1 := by have := HGT.out.1; rw [IntKind.wrap_i64]; omega
    cases hln : decide (1 ≤ (ws.length : Int) ∧ (ws.length : Int) ≤ 12) with
    | false =>
      have hln' := of_decide_eq_false hln
      have HF : Hid (ok = false ∧ out = 0) := by
        have h1 : ok = false := HD.out.1.trans (by rw [hg, decide_eq_false (by omega)]; rfl)
        exact ⟨h1, HD.out.2.1.trans (by rw [h1]; rfl)⟩
      clear hg HD HUD HRD CA HGT hln'
      go_enter Try.func70, Try.ntmps70
      go_wp2_with fail
      refine CG.out.mono ?_
      rintro e w1 ⟨rfl, hb1⟩
      have HB1 : Hid (Below W.heap.size W w1) := hb1
      clear hb1
      go_wp2_with fail
      refine (l1In_any _ 1 12 _).mono ?_
      rintro e ww ⟨rfl, hww⟩
      obtain rfl := hww
      rw [hln]
      go_wp2
      refine bodyPost_ret (results_tmp2 rfl _ _ _) rfl ?_
      exact ⟨by rw [HF.out.1, HF.out.2]; rfl, HB1.out⟩
    | true =>
      have hln' := of_decide_eq_true hln
      have hw1 : 1 ≤ ws.length := by omega
      have hw2 : ws.length ≤ 12 := by omega
      have HE : Hid (ok = (inR (n - 1) ws && okC l ws (ws.length - 1))) := HD.out.2.2 hg ⟨hw1, hw2⟩
      cases hr : inR (n - 1) ws with
      | false =>
        have HF : Hid (ok = false ∧ out = 0) := by
          have h1 : ok = false := HE.out.trans (by rw [hr]; rfl)
          exact ⟨h1, HD.out.2.1.trans (by rw [h1]; rfl)⟩
        rw [hr] at CA
        clear hg HD HUD HRD HGT hln' HE hr
        go_enter Try.func70, Try.ntmps70
        go_wp2_with fail
        refine CG.out.mono ?_
        rintro e w1 ⟨rfl, hb1⟩
        have HS1 : Hid (Since W.heap.size W w1) := HS0.out.step hb1
        clear hb1
        go_wp2_with fail
        refine (l1In_any _ 1 12 _).mono ?_
        rintro e ww ⟨rfl, hww⟩
        obtain rfl : w1 = ww := hww.symm
        rw [hln]
        go_wp2_with fail
        refine (CA.out _ HS1.out).mono ?_
        rintro e ww ⟨rfl, hww⟩
        obtain rfl : w1 = ww := hww.symm
        go_wp2
        refine bodyPost_ret (results_tmp2 rfl _ _ _) rfl ?_
        exact ⟨by rw [HF.out.1, HF.out.2]; rfl, HS1.out.1⟩
      | true =>
        have HOUT : Hid ((okC l ws (ws.length - 1) = true → ok = true ∧ out = sumC l ws (ws.length - 1)) ∧ (okC l ws (ws.length - 1) = false → ok = false ∧ out = 0)) := by
          have e : ok = okC l ws (ws.length - 1) := HE.out.trans (by rw [hr]; rfl)
          refine ⟨fun h1 => ?_, fun h1 => ?_⟩
          · rw [h1] at e
            exact ⟨e, HD.out.2.1.trans (by rw [e]; rfl)⟩
          · rw [h1] at e
            exact ⟨e, HD.out.2.1.trans (by rw [e]; rfl)⟩
        rw [hr] at CA
        have CE : Hid (∀ (w' : World) (x y : Int), Since W.heap.size W w' → Calls Try.prog 120 #[.slice a1 l.length c1, .int .i64 x, .int .i64 y] w' fun e w2 => e = .returned (.int .i64 (costB l x y)) ∧ Below w'.heap.size w' w2) := fun w' x y hs => by
          have := l9Edge_any w' _ l x y (HRD.out w' hs) hl
          rw [edS_eq HGT.out.2.2.1 HGT.out.2.2.2] at this
          exact this
        have HLOW : Hid ((∀ x y, 0 ≤ costB l x y ∧ costB l x y ≤ 100) ∧ ∀ k, 0 ≤ sumC l ws k ∧ sumC l ws k ≤ 100 * k) := ⟨fun x y => costB_low HGT.out.2.2.1 x y, sumC_low HGT.out.2.2.1 ws⟩
        have HWC : Hid (∃ wg, aw = some ⟨wg, 0, none⟩ ∧ ∀ w j, Since W.heap.size W w → j < ws.length → w.cell? ⟨wg, j, none⟩ = some (.int .i64 (ws.getD j 0))) := by
          rcases (HUD.out W (Since.start W)).2 with ⟨hv, h0⟩ | ⟨g, cap, cur, hv, -⟩
          · omega
          · cases hv
            refine ⟨g, rfl, fun w j hs hj => ?_⟩
            rw [getD_atC ws j hj]
            exact own_cellG (HUD.out w hs) rfl j hj
        obtain ⟨wg, rfl, hwc⟩ := HWC.out
        have HWC2 : Hid (∀ w j, Since W.heap.size W w → j < ws.length → w.cell? ⟨wg, j, none⟩ = some (.int .i64 (ws.getD j 0))) := hwc
        clear hg HD HUD HRD HGT hln' HE hr HWC hwc
        go_enter Try.func70, Try.ntmps70
        go_wp2_with fail
        refine CG.out.mono ?_
        rintro e w1 ⟨rfl, hb1⟩
        have HS1 : Hid (Since W.heap.size W w1) := HS0.out.step hb1
        clear hb1
        go_wp2_with fail
        refine (l1In_any _ 1 12 _).mono ?_
        rintro e ww ⟨rfl, hww⟩
        obtain rfl : w1 = ww := hww.symm
        rw [hln]
        go_wp2_with fail
        refine (CA.out _ HS1.out).mono ?_
        rintro e ww ⟨rfl, hww⟩
        obtain rfl : w1 = ww := hww.symm
        go_wp2
        go_loopw [8, 9] (fun m i wr => ∃ k : Nat, k ≤ ws.length - 1 ∧ i = .int .i64 ((k : Int) + 1) ∧ ∃ z : Int, m = .int .i64 z ∧ Hid (z = sumC l ws k ∧ okC l ws k = true ∧ Since W.heap.size W wr)) (fun _ i _ => ws.length - (intOf i).toNat)
        case atStart => exact ⟨0, Nat.zero_le _, rfl, 0, rfl, rfl, rfl, HS1.out⟩
        case round =>
          obtain ⟨k, hk, rfl, z, rfl, HK⟩ := hrel
          by_cases hlt : k < ws.length - 1
          · have hlt' : (k : Int) + 1 < (ws.length : Int) := by omega
            have hk1 : k < ws.length := by omega
            have hk2 : k + 1 < ws.length := by omega
            have hk1' : (k : Int) < (ws.length : Int) := by omega
            have HST : Hid (stepC l ws k = costB l (ws.getD k 0) (ws.getD (k + 1) 0)) := rfl
            have hlow := HLOW.out.1 (ws.getD k 0) (ws.getD (k + 1) 0)
            have hsum := HLOW.out.2 k
            rw [← HK.out.1] at hsum
            have SWR : Hid (Since W.heap.size W wr.drew) := ⟨HK.out.2.2.1.drew, HK.out.2.2.2⟩
            have h1c := HWC2.out wr.drew k SWR.out hk1
            have h2c := HWC2.out wr.drew (k + 1) SWR.out hk2
            have CE1 : Hid (∀ (w' : World), Since W.heap.size W w' → Calls Try.prog 120 #[.slice a1 l.length c1, .int .i64 (ws.getD k 0), .int .i64 (ws.getD (k + 1) 0)] w' fun e w2 => e = .returned (.int .i64 (costB l (ws.getD k 0) (ws.getD (k + 1) 0))) ∧ Below w'.heap.size w' w2) := fun w' hs => CE.out w' _ _ hs
            generalize costB l (ws.getD k 0) (ws.getD (k + 1) 0) = c at *
            generalize ws.getD k 0 = x at *
            generalize ws.getD (k + 1) 0 = y at *
            have HSH : Hid (∀ w, Below wr.drew.heap.size wr.drew w → w.cell? ⟨wg, k, none⟩ = some (.int .i64 x) ∧ w.cell? ⟨wg, k + 1, none⟩ = some (.int .i64 y)) := fun w hb => ⟨(hb.cell (p := ⟨wg, k, none⟩) (World.block_lt_of_cell? wr.drew ⟨wg, k, none⟩ h1c)).trans h1c, (hb.cell (p := ⟨wg, k + 1, none⟩) (World.block_lt_of_cell? wr.drew ⟨wg, k + 1, none⟩ h2c)).trans h2c⟩
            have hwr : IntKind.i64.wrap (k : Int) = (k : Int) := by rw [IntKind.wrap_i64]; omega
            have hge0 : ¬ ((k : Int) + 1 < 0) := by omega
            have hnat : ((k : Int) + 1).toNat = k + 1 := by omega
            clear h1c h2c CE HWC2 HLOW CA
            go_wp2
            refine (wpIn_wide (n := 9)).1 ?_
            refine region_outRound (S := (fun w' : World => w'.cell? ⟨wg, k, none⟩ = some (.int .i64 x) ∧ w'.cell? ⟨wg, k + 1, none⟩ = some (.int .i64 y))) 11 (by kernel_rfl) ?_ (fun hHeld => ?_)
            · exact HSH.out _ (Below.refl _ _)
            refine roundRead 0 (some 34) (.slice a1 l.length c1) rfl rfl (by kernel_rfl) (by kernel_rfl) (by kernel_rfl) (by kernel_rfl) (fun _ _ _ h => h) (by kernel_rfl) (by assumption) ?_ ?_
            · intro w hSw
              (try dsimp only at hSw)
              go_simp
            simp only [Act.put, List.setIfInBounds_toArray, List.set_cons_zero, List.set_cons_succ]
            refine roundRead 1 (some 35) (.slice (some ⟨wg, 0, none⟩) ws.length cw) rfl rfl (by kernel_rfl) (by kernel_rfl) (by kernel_rfl) (by kernel_rfl) (fun _ _ _ h => h) (by kernel_rfl) (by assumption) ?_ ?_
            · intro w hSw
              (try dsimp only at hSw)
              go_simp
            simp only [Act.put, List.setIfInBounds_toArray, List.set_cons_zero, List.set_cons_succ]
            refine roundRead 2 (some 36) (.int .i64 ((k : Int) + 1)) rfl rfl (by kernel_rfl) (by kernel_rfl) (by kernel_rfl) (by kernel_rfl) (fun _ _ _ h => h) (by kernel_rfl) (by assumption) ?_ ?_
            · intro w hSw
              (try dsimp only at hSw)
              go_simp
            simp only [Act.put, List.setIfInBounds_toArray, List.set_cons_zero, List.set_cons_succ]
            refine roundRead 3 (some 37) (.int .i64 (k : Int)) rfl rfl (by kernel_rfl) (by kernel_rfl) (by kernel_rfl) (by kernel_rfl) (fun _ _ _ h => h) (by kernel_rfl) (by assumption) ?_ ?_
            · intro w hSw
              (try dsimp only at hSw)
              go_simp
            simp only [Act.put, List.setIfInBounds_toArray, List.set_cons_zero, List.set_cons_succ]
            refine roundRead 4 (some 38) (.pointer (some ⟨wg, k, none⟩)) rfl rfl (by kernel_rfl) (by kernel_rfl) (by kernel_rfl) (by kernel_rfl) (fun _ _ _ h => h) (by kernel_rfl) (by assumption) ?_ ?_
            · intro w hSw
              (try dsimp only at hSw)
              go_simp
            simp only [Act.put, List.setIfInBounds_toArray, List.set_cons_zero, List.set_cons_succ]
            refine roundRead 5 (some 39) (.int .i64 x) rfl rfl (by kernel_rfl) (by kernel_rfl) (by kernel_rfl) (by kernel_rfl) (fun _ _ _ h => h) (by kernel_rfl) (by assumption) ?_ ?_
            · intro w hSw
              (try dsimp only at hSw)
              go_simp
            simp only [Act.put, List.setIfInBounds_toArray, List.set_cons_zero, List.set_cons_succ]
            refine roundRead 6 (some 40) (.slice (some ⟨wg, 0, none⟩) ws.length cw) rfl rfl (by kernel_rfl) (by kernel_rfl) (by kernel_rfl) (by kernel_rfl) (fun _ _ _ h => h) (by kernel_rfl) (by assumption) ?_ ?_
            · intro w hSw
              (try dsimp only at hSw)
              go_simp
            simp only [Act.put, List.setIfInBounds_toArray, List.set_cons_zero, List.set_cons_succ]
            refine roundRead 7 (some 41) (.int .i64 ((k : Int) + 1)) rfl rfl (by kernel_rfl) (by kernel_rfl) (by kernel_rfl) (by kernel_rfl) (fun _ _ _ h => h) (by kernel_rfl) (by assumption) ?_ ?_
            · intro w hSw
              (try dsimp only at hSw)
              go_simp
            simp only [Act.put, List.setIfInBounds_toArray, List.set_cons_zero, List.set_cons_succ]
            refine roundRead 8 (some 42) (.pointer (some ⟨wg, k + 1, none⟩)) rfl rfl (by kernel_rfl) (by kernel_rfl) (by kernel_rfl) (by kernel_rfl) (fun _ _ _ h => h) (by kernel_rfl) (by assumption) ?_ ?_
            · intro w hSw
              (try dsimp only at hSw)
              go_simp
            simp only [Act.put, List.setIfInBounds_toArray, List.set_cons_zero, List.set_cons_succ]
            refine roundRead 9 (some 43) (.int .i64 y) rfl rfl (by kernel_rfl) (by kernel_rfl) (by kernel_rfl) (by kernel_rfl) (fun _ _ _ h => h) (by kernel_rfl) (by assumption) ?_ ?_
            · intro w hSw
              (try dsimp only at hSw)
              go_simp
            simp only [Act.put, List.setIfInBounds_toArray, List.set_cons_zero, List.set_cons_succ]
            refine roundCall 10 (some 44) 120 #[.slice a1 l.length c1, .int .i64 x, .int .i64 y] (by kernel_rfl) rfl rfl (by kernel_rfl) (by simp [go_sem]) ((CE1.out _ SWR.out).mono ?_)
            rintro e wq ⟨rfl, hbq⟩
            refine ⟨_, rfl, (by exact HSH.out _ hbq), fun hHeld => ?_⟩
            simp only [Act.put, List.setIfInBounds_toArray, List.set_cons_zero, List.set_cons_succ]
            refine roundValue 11 (some 10) (.int .i64 c) wq (by kernel_rfl) rfl rfl (.inl (by kernel_rfl)) (by kernel_rfl) (by go_simp) ?_
            simp only [Act.put, List.setIfInBounds_toArray, List.set_cons_zero, List.set_cons_succ]
            refine wpAnyR.done (by kernel_rfl) ?_ _
            by_cases hc : c = 0
            · have t1 : (c == 0) = true := by simpa using hc
              have HF := HOUT.out.2 (okC_no l ws k (by rw [HST.out]; exact hc) _ (by omega))
              have HFZ : Hid (ok = false ∧ out = 0 ∧ Below W.heap.size W wq) := ⟨HF.1, HF.2, (SWR.out.step hbq).1⟩
              clear HF hc HK HSH CE1 hHeld SWR hbq HOUT
              go_wp2
              refine bodyPost_ret (results_tmp2 rfl _ _ _) rfl ?_
              exact ⟨by rw [HFZ.out.1, HFZ.out.2.1]; rfl, HFZ.out.2.2⟩
            · have t1 : (c == 0) = false := by simpa using hc
              have hwr2 : IntKind.i64.wrap (z + c) = z + c := by rw [IntKind.wrap_i64]; omega
              have HF : Hid (z + c = sumC l ws (k + 1) ∧ okC l ws (k + 1) = true ∧ Since W.heap.size W wq) := by
                refine ⟨by rw [sumC, HST.out, ← HK.out.1], ?_, SWR.out.step hbq⟩
                rw [okC, HK.out.2.1, HST.out, decide_eq_true hc]
                rfl
              clear hc HK HSH CE1 hHeld SWR hbq
              go_wp2
              go_roundw
              case rel => exact ⟨k + 1, by omega, by go_num, _, rfl, HF.out⟩
              case measure => simp [intOf]; omega
          · have e : k = ws.length - 1 := by omega
            have hge : ¬ ((k : Int) + 1 < (ws.length : Int)) := by omega
            have HF := HOUT.out.1 (by rw [← e]; exact HK.out.2.1)
            have HFZ : Hid (ok = true ∧ out = z ∧ Below W.heap.size W wr) := ⟨HF.1, by rw [HF.2, ← e, HK.out.1], HK.out.2.2.1⟩
            clear HF HK HOUT
            go_wp2
            refine bodyPost_ret (results_tmp2 rfl _ _ _) rfl ?_
            exact ⟨by rw [HFZ.out.1, HFZ.out.2.1]; rfl, HFZ.out.2.2⟩
end Go.Proofs.Ythlbmkefjjckaac
