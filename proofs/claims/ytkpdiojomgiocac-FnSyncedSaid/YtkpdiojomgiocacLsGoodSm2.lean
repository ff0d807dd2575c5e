/-
  'GoodSummary' of the program and of the model.
-/
import Derived.Test.YtkpdiojomgiocacLsGoodSm
namespace Go.Proofs.Ytkpdiojomgiocac
open Go.RowKit
set_option linter.unusedVariables false

theorem smNew (W : World) (x y z : Value) : ∀ w', Below (W.alloc (.cells #[x, y, z] 32)).heap.size (W.alloc (.cells #[x, y, z] 32)) w' → w'.cell? ⟨W.heap.size, 0, none⟩ = some x ∧ w'.cell? ⟨W.heap.size, 1, none⟩ = some y ∧ w'.cell? ⟨W.heap.size, 2, none⟩ = some z := fun w' hs =>
  ⟨(hs.cell (p := ⟨W.heap.size, 0, none⟩) (by simp)).trans (by rw [World.cell?_alloc_at _ _ _ _ rfl]; rfl), (hs.cell (p := ⟨W.heap.size, 1, none⟩) (by simp)).trans (by rw [World.cell?_alloc_at _ _ _ _ rfl]; rfl), (hs.cell (p := ⟨W.heap.size, 2, none⟩) (by simp)).trans (by rw [World.cell?_alloc_at _ _ _ _ rfl]; rfl)⟩
theorem goodSm_bad {s : SmD} (h : goodHv s.Hs = false) : goodSm s = false := by unfold goodSm; rw [h]; rfl
theorem goodSm_range {s : SmD} (h : ¬ (1 ≤ s.Lo ∧ s.Lo ≤ s.Hi ∧ s.Hi ≤ 1000)) : goodSm s = false := by unfold goodSm; rw [decide_eq_false h, Bool.and_false]; rfl
theorem goodSm_all {s : SmD} (h : goodHv s.Hs = true) (h2 : 1 ≤ s.Lo ∧ s.Lo ≤ s.Hi ∧ s.Hi ≤ 1000) : goodSm s = s.Hs.all fun x => decide (s.Lo ≤ x.From ∧ x.From ≤ s.Hi) := by unfold goodSm; rw [h, decide_eq_true h2]; rfl
theorem goodSm_some {s : SmD} (k : Nat) (hk : k < s.Hs.length) (h : ¬ (s.Lo ≤ s.Hs[k].From ∧ s.Hs[k].From ≤ s.Hi)) : goodSm s = false := by
  unfold goodSm
  have : (s.Hs.all fun x => decide (s.Lo ≤ x.From ∧ x.From ≤ s.Hi)) = false := by
    rw [Bool.eq_false_iff]
    intro e
    exact h (of_decide_eq_true (List.all_eq_true.1 e _ (List.getElem_mem hk)))
  rw [this, Bool.and_false]

set_option maxRecDepth 100000 in
set_option maxHeartbeats 4000000 in
theorem implGoodSm_any (W : World) (v : Value) (s : SmD) (h : LiesHv W v s.Hs) (hl : s.Hs.length ≤ 2097152) :
    Calls Try.prog 14 #[.agg #[.int .i64 s.Lo, .int .i64 s.Hi, v]] W fun e W' => e = .returned (.bool (goodSm s)) ∧ Below W.heap.size W W' := by
  obtain ⟨a1, c1, rfl⟩ := h.shape
  have HX : Hid (∀ w', Below (W.alloc (.cells #[.int .i64 s.Lo, .int .i64 s.Hi, .slice a1 s.Hs.length c1] 32)).heap.size (W.alloc (.cells #[.int .i64 s.Lo, .int .i64 s.Hi, .slice a1 s.Hs.length c1] 32)) w' → w'.cell? ⟨W.heap.size, 0, none⟩ = some (.int .i64 s.Lo) ∧ w'.cell? ⟨W.heap.size, 1, none⟩ = some (.int .i64 s.Hi) ∧ w'.cell? ⟨W.heap.size, 2, none⟩ = some (.slice a1 s.Hs.length c1)) := smNew W _ _ _
  have HB1 : Hid (Below W.heap.size W (W.alloc (.cells #[.int .i64 s.Lo, .int .i64 s.Hi, .slice a1 s.Hs.length c1] 32))) := (Below.refl _ W).alloc (Nat.le_refl _) _
  have CG : Hid (Calls Try.prog 22 #[.slice a1 s.Hs.length c1] (W.alloc (.cells #[.int .i64 s.Lo, .int .i64 s.Hi, .slice a1 s.Hs.length c1] 32)) fun e W' => e = .returned (.bool (goodHv s.Hs)) ∧ Below (W.alloc (.cells #[.int .i64 s.Lo, .int .i64 s.Hi, .slice a1 s.Hs.length c1] 32)).heap.size (W.alloc (.cells #[.int .i64 s.Lo, .int .i64 s.Hi, .slice a1 s.Hs.length c1] 32)) W') := implGoodHv_any _ _ s.Hs (h.below HB1.out).reads (by omega)
  have HL : Hid (LiesHv W (.slice a1 s.Hs.length c1) s.Hs) := h
  clear h
  cases hg : goodHv s.Hs with
  | false =>
    have HR : Hid (goodSm s = false) := goodSm_bad hg
    rw [hg] at CG
    clear hg
    generalize s.Lo = lo at *
    generalize s.Hi = hi at *
    go_enter Try.func14, Try.ntmps14
    go_wp2_with fail
    refine CG.out.mono ?_
    rintro e w2 ⟨rfl, hb2⟩
    have HB2 : Hid (Below W.heap.size W w2) := HB1.out.trans (hb2.mono HB1.out.size)
    clear hb2
    go_wp2
    go_ret
    exact ⟨ret_bool HR.out.symm, HB2.out⟩
  | true =>
    rw [hg] at CG
    have hlen := (goodHv_true hg).1
    have HC : Hid ((¬ (1 ≤ s.Lo ∧ s.Lo ≤ s.Hi ∧ s.Hi ≤ 1000) → goodSm s = false) ∧ ((1 ≤ s.Lo ∧ s.Lo ≤ s.Hi ∧ s.Hi ≤ 1000) → goodSm s = decide ((withinHv s.Hs s.Lo s.Hi).length = s.Hs.length))) := ⟨goodSm_range, fun h2 => by
      rw [goodSm_all hg h2, Bool.eq_iff_iff, decide_eq_true_iff, within_all, List.all_eq_true]
      exact ⟨fun h x hx => of_decide_eq_true (h x hx), fun h x hx => decide_eq_true (h x hx)⟩⟩
    have CW : Hid (∀ w', Below W.heap.size W w' → Calls Try.prog 40 #[.slice a1 s.Hs.length c1, .int .i64 s.Lo, .int .i64 s.Hi] w' fun e W' => ∃ v', e = .returned v' ∧ OwnHv W' w'.heap.size v' (withinHv s.Hs s.Lo s.Hi) ∧ Below w'.heap.size w' W') := fun w' hb => havesWithin_any w' _ s.Hs s.Lo s.Hi (HL.out.below hb).reads (by omega)
    clear hg HL hlen
    generalize goodSm s = gs at *
    generalize s.Lo = lo at *
    generalize s.Hi = hi at *
    generalize s.Hs = zs at *
    have HX1 := HX
    go_enter Try.func14, Try.ntmps14
    go_wp2_with fail
    refine CG.out.mono ?_
    rintro e w2 ⟨rfl, hb2⟩
    have HB2 : Hid (Below W.heap.size W w2) := HB1.out.trans (hb2.mono HB1.out.size)
    obtain ⟨q0, q1, q2⟩ := HX.out w2 hb2
    have HX2 : Hid (∀ w', Since w2.heap.size w2 w' → w'.cell? ⟨W.heap.size, 0, none⟩ = some (.int .i64 lo) ∧ w'.cell? ⟨W.heap.size, 1, none⟩ = some (.int .i64 hi) ∧ w'.cell? ⟨W.heap.size, 2, none⟩ = some (.slice a1 zs.length c1)) := fun w' hs => HX1.out w' (hb2.trans (hs.1.mono hb2.size))
    have CWx : Hid (∀ w', Since w2.heap.size w2 w' → Calls Try.prog 40 #[.slice a1 zs.length c1, .int .i64 lo, .int .i64 hi] w' fun e W' => ∃ v', e = .returned v' ∧ OwnHv W' w'.heap.size v' (withinHv zs lo hi) ∧ Below w'.heap.size w' W') := fun w' hs => CW.out w' (HB2.out.trans (hs.1.mono HB2.out.size))
    clear hb2 HX HX1 CW CG
    have CW := CWx
    clear CWx
    by_cases h1 : lo < 1
    · have HZ : Hid (gs = false) := HC.out.1 (by omega)
      have d1 : decide (lo < 1) = true := decide_eq_true h1
      clear HC h1
      go_wp2
      go_ret
      exact ⟨ret_bool HZ.out.symm, HB2.out⟩
    have d1 : decide (lo < 1) = false := decide_eq_false h1
    by_cases h2 : hi < lo
    · have HZ : Hid (gs = false) := HC.out.1 (by omega)
      have d2 : decide (hi < lo) = true := decide_eq_true h2
      clear HC h1 h2
      go_wp2
      go_ret
      exact ⟨ret_bool HZ.out.symm, HB2.out⟩
    have d2 : decide (hi < lo) = false := decide_eq_false h2
    by_cases h3 : 1000 < hi
    · have HZ : Hid (gs = false) := HC.out.1 (by omega)
      have d3 : decide (1000 < hi) = true := decide_eq_true h3
      clear HC h1 h2 h3
      go_wp2
      go_ret
      exact ⟨ret_bool HZ.out.symm, HB2.out⟩
    have d3 : decide (1000 < hi) = false := decide_eq_false h3
    have HZ : Hid (gs = decide ((withinHv zs lo hi).length = zs.length)) := HC.out.2 (by omega)
    clear HC h1 h2 h3
    obtain ⟨wl, hwl⟩ : ∃ wl : Nat, (withinHv zs lo hi).length = wl := ⟨_, rfl⟩
    rw [hwl] at HZ
    have HWL : Hid ((withinHv zs lo hi).length = wl) := hwl
    clear hwl
    by_cases he : wl = zs.length
    · have HE : Hid (gs = true) := by show _ = _; rw [HZ.out]; exact decide_eq_true he
      have e1 : ((wl : Int) == (zs.length : Int)) = true := by simp; omega
      clear HZ he
      go_wp2
      have SA0 := Since.start w2
      refine wp_region_held_drew (S := (fun w' => w'.cell? ⟨W.heap.size, 0, none⟩ = some (.int .i64 lo) ∧ w'.cell? ⟨W.heap.size, 1, none⟩ = some (.int .i64 hi) ∧ w'.cell? ⟨W.heap.size, 2, none⟩ = some (.slice a1 zs.length c1))) (by kernel_rfl) ?_ (fun hHeld => ?_)
      · exact HX2.out _ SA0.drew
      refine handRead 0 (some 24) (.pointer (some ⟨W.heap.size, 2, none⟩)) rfl rfl (by kernel_rfl) (by kernel_rfl) (by kernel_rfl) (fun _ _ _ h => h) (by kernel_rfl) (by assumption) ?_ ?_
      · intro w hSw
        (try dsimp only at hSw)
        go_simp
      simp only [Act.put, List.setIfInBounds_toArray, List.set_cons_zero, List.set_cons_succ]
      refine handRead 1 (some 25) (.slice a1 zs.length c1) rfl rfl (by kernel_rfl) (by kernel_rfl) (by kernel_rfl) (fun _ _ _ h => h) (by kernel_rfl) (by assumption) ?_ ?_
      · intro w hSw
        (try dsimp only at hSw)
        go_simp
      simp only [Act.put, List.setIfInBounds_toArray, List.set_cons_zero, List.set_cons_succ]
      refine handRead 2 (some 26) (.pointer (some ⟨W.heap.size, 0, none⟩)) rfl rfl (by kernel_rfl) (by kernel_rfl) (by kernel_rfl) (fun _ _ _ h => h) (by kernel_rfl) (by assumption) ?_ ?_
      · intro w hSw
        (try dsimp only at hSw)
        go_simp
      simp only [Act.put, List.setIfInBounds_toArray, List.set_cons_zero, List.set_cons_succ]
      refine handRead 3 (some 27) (.int .i64 lo) rfl rfl (by kernel_rfl) (by kernel_rfl) (by kernel_rfl) (fun _ _ _ h => h) (by kernel_rfl) (by assumption) ?_ ?_
      · intro w hSw
        (try dsimp only at hSw)
        go_simp
      simp only [Act.put, List.setIfInBounds_toArray, List.set_cons_zero, List.set_cons_succ]
      refine handRead 4 (some 28) (.pointer (some ⟨W.heap.size, 1, none⟩)) rfl rfl (by kernel_rfl) (by kernel_rfl) (by kernel_rfl) (fun _ _ _ h => h) (by kernel_rfl) (by assumption) ?_ ?_
      · intro w hSw
        (try dsimp only at hSw)
        go_simp
      simp only [Act.put, List.setIfInBounds_toArray, List.set_cons_zero, List.set_cons_succ]
      refine handRead 5 (some 29) (.int .i64 hi) rfl rfl (by kernel_rfl) (by kernel_rfl) (by kernel_rfl) (fun _ _ _ h => h) (by kernel_rfl) (by assumption) ?_ ?_
      · intro w hSw
        (try dsimp only at hSw)
        go_simp
      simp only [Act.put, List.setIfInBounds_toArray, List.set_cons_zero, List.set_cons_succ]
      refine handRead 8 (some 32) (.pointer (some ⟨W.heap.size, 2, none⟩)) rfl rfl (by kernel_rfl) (by kernel_rfl) (by kernel_rfl) (fun _ _ _ h => h) (by kernel_rfl) (by assumption) ?_ ?_
      · intro w hSw
        (try dsimp only at hSw)
        go_simp
      simp only [Act.put, List.setIfInBounds_toArray, List.set_cons_zero, List.set_cons_succ]
      refine handRead 9 (some 33) (.slice a1 zs.length c1) rfl rfl (by kernel_rfl) (by kernel_rfl) (by kernel_rfl) (fun _ _ _ h => h) (by kernel_rfl) (by assumption) ?_ ?_
      · intro w hSw
        (try dsimp only at hSw)
        go_simp
      simp only [Act.put, List.setIfInBounds_toArray, List.set_cons_zero, List.set_cons_succ]
      refine handRead 10 (some 34) (.int .i64 zs.length) rfl rfl (by kernel_rfl) (by kernel_rfl) (by kernel_rfl) (fun _ _ _ h => h) (by kernel_rfl) (by assumption) ?_ ?_
      · intro w hSw
        (try dsimp only at hSw)
        go_simp
      simp only [Act.put, List.setIfInBounds_toArray, List.set_cons_zero, List.set_cons_succ]
      refine handCall 6 (some 30) 40 #[.slice a1 zs.length c1, .int .i64 lo, .int .i64 hi] (by kernel_rfl) rfl rfl (by kernel_rfl) (by simp [go_sem]) ((CW.out _ SA0.drew).mono ?_)
      rintro e w3 ⟨v3, rfl, ho3, hb3⟩
      have SA1 := SA0.drew.step hb3
      have HB3 : Hid (Below W.heap.size W w3) := HB2.out.trans (SA1.1.mono HB2.out.size)
      obtain ⟨a3, c3, rfl⟩ := ho3.shape
      clear hHeld ho3
      refine ⟨_, rfl, (by exact HX2.out _ SA1), fun hHeld => ?_⟩
      simp only [Act.put, List.setIfInBounds_toArray, List.set_cons_zero, List.set_cons_succ]
      refine handRead 7 (some 31) (.int .i64 wl) rfl rfl (by kernel_rfl) (by kernel_rfl) (by kernel_rfl) (fun _ _ _ h => h) (by kernel_rfl) (by assumption) ?_ ?_
      · intro w hSw
        (try dsimp only at hSw)
        go_simp
        rw [HWL.out]
      simp only [Act.put, List.setIfInBounds_toArray, List.set_cons_zero, List.set_cons_succ]
      refine handRead 11 (some 35) (.bool true) rfl rfl (by kernel_rfl) (by kernel_rfl) (by kernel_rfl) (fun _ _ _ h => h) (by kernel_rfl) (by assumption) ?_ ?_
      · intro w hSw
        (try dsimp only at hSw)
        go_simp
      simp only [Act.put, List.setIfInBounds_toArray, List.set_cons_zero, List.set_cons_succ]
      refine handRead 12 (some 2) (.bool true) rfl rfl (by kernel_rfl) (by kernel_rfl) (by kernel_rfl) (fun _ _ _ h => h) (by kernel_rfl) (by assumption) ?_ ?_
      · intro w hSw
        (try dsimp only at hSw)
        go_simp
      simp only [Act.put, List.setIfInBounds_toArray, List.set_cons_zero, List.set_cons_succ]
      refine wpAnyH_done (by kernel_rfl) ?_ _
      go_wp2
      go_ret
      exact ⟨ret_bool HE.out.symm, HB3.out⟩
    · have HE : Hid (gs = false) := by show _ = _; rw [HZ.out]; exact decide_eq_false he
      have e1 : ((wl : Int) == (zs.length : Int)) = false := by simp; omega
      clear HZ he
      go_wp2
      have SA0 := Since.start w2
      refine wp_region_held_drew (S := (fun w' => w'.cell? ⟨W.heap.size, 0, none⟩ = some (.int .i64 lo) ∧ w'.cell? ⟨W.heap.size, 1, none⟩ = some (.int .i64 hi) ∧ w'.cell? ⟨W.heap.size, 2, none⟩ = some (.slice a1 zs.length c1))) (by kernel_rfl) ?_ (fun hHeld => ?_)
      · exact HX2.out _ SA0.drew
      refine handRead 0 (some 24) (.pointer (some ⟨W.heap.size, 2, none⟩)) rfl rfl (by kernel_rfl) (by kernel_rfl) (by kernel_rfl) (fun _ _ _ h => h) (by kernel_rfl) (by assumption) ?_ ?_
      · intro w hSw
        (try dsimp only at hSw)
        go_simp
      simp only [Act.put, List.setIfInBounds_toArray, List.set_cons_zero, List.set_cons_succ]
      refine handRead 1 (some 25) (.slice a1 zs.length c1) rfl rfl (by kernel_rfl) (by kernel_rfl) (by kernel_rfl) (fun _ _ _ h => h) (by kernel_rfl) (by assumption) ?_ ?_
      · intro w hSw
        (try dsimp only at hSw)
        go_simp
      simp only [Act.put, List.setIfInBounds_toArray, List.set_cons_zero, List.set_cons_succ]
      refine handRead 2 (some 26) (.pointer (some ⟨W.heap.size, 0, none⟩)) rfl rfl (by kernel_rfl) (by kernel_rfl) (by kernel_rfl) (fun _ _ _ h => h) (by kernel_rfl) (by assumption) ?_ ?_
      · intro w hSw
        (try dsimp only at hSw)
        go_simp
      simp only [Act.put, List.setIfInBounds_toArray, List.set_cons_zero, List.set_cons_succ]
      refine handRead 3 (some 27) (.int .i64 lo) rfl rfl (by kernel_rfl) (by kernel_rfl) (by kernel_rfl) (fun _ _ _ h => h) (by kernel_rfl) (by assumption) ?_ ?_
      · intro w hSw
        (try dsimp only at hSw)
        go_simp
      simp only [Act.put, List.setIfInBounds_toArray, List.set_cons_zero, List.set_cons_succ]
      refine handRead 4 (some 28) (.pointer (some ⟨W.heap.size, 1, none⟩)) rfl rfl (by kernel_rfl) (by kernel_rfl) (by kernel_rfl) (fun _ _ _ h => h) (by kernel_rfl) (by assumption) ?_ ?_
      · intro w hSw
        (try dsimp only at hSw)
        go_simp
      simp only [Act.put, List.setIfInBounds_toArray, List.set_cons_zero, List.set_cons_succ]
      refine handRead 5 (some 29) (.int .i64 hi) rfl rfl (by kernel_rfl) (by kernel_rfl) (by kernel_rfl) (fun _ _ _ h => h) (by kernel_rfl) (by assumption) ?_ ?_
      · intro w hSw
        (try dsimp only at hSw)
        go_simp
      simp only [Act.put, List.setIfInBounds_toArray, List.set_cons_zero, List.set_cons_succ]
      refine handRead 8 (some 32) (.pointer (some ⟨W.heap.size, 2, none⟩)) rfl rfl (by kernel_rfl) (by kernel_rfl) (by kernel_rfl) (fun _ _ _ h => h) (by kernel_rfl) (by assumption) ?_ ?_
      · intro w hSw
        (try dsimp only at hSw)
        go_simp
      simp only [Act.put, List.setIfInBounds_toArray, List.set_cons_zero, List.set_cons_succ]
      refine handRead 9 (some 33) (.slice a1 zs.length c1) rfl rfl (by kernel_rfl) (by kernel_rfl) (by kernel_rfl) (fun _ _ _ h => h) (by kernel_rfl) (by assumption) ?_ ?_
      · intro w hSw
        (try dsimp only at hSw)
        go_simp
      simp only [Act.put, List.setIfInBounds_toArray, List.set_cons_zero, List.set_cons_succ]
      refine handRead 10 (some 34) (.int .i64 zs.length) rfl rfl (by kernel_rfl) (by kernel_rfl) (by kernel_rfl) (fun _ _ _ h => h) (by kernel_rfl) (by assumption) ?_ ?_
      · intro w hSw
        (try dsimp only at hSw)
        go_simp
      simp only [Act.put, List.setIfInBounds_toArray, List.set_cons_zero, List.set_cons_succ]
      refine handCall 6 (some 30) 40 #[.slice a1 zs.length c1, .int .i64 lo, .int .i64 hi] (by kernel_rfl) rfl rfl (by kernel_rfl) (by simp [go_sem]) ((CW.out _ SA0.drew).mono ?_)
      rintro e w3 ⟨v3, rfl, ho3, hb3⟩
      have SA1 := SA0.drew.step hb3
      have HB3 : Hid (Below W.heap.size W w3) := HB2.out.trans (SA1.1.mono HB2.out.size)
      obtain ⟨a3, c3, rfl⟩ := ho3.shape
      clear hHeld ho3
      refine ⟨_, rfl, (by exact HX2.out _ SA1), fun hHeld => ?_⟩
      simp only [Act.put, List.setIfInBounds_toArray, List.set_cons_zero, List.set_cons_succ]
      refine handRead 7 (some 31) (.int .i64 wl) rfl rfl (by kernel_rfl) (by kernel_rfl) (by kernel_rfl) (fun _ _ _ h => h) (by kernel_rfl) (by assumption) ?_ ?_
      · intro w hSw
        (try dsimp only at hSw)
        go_simp
        rw [HWL.out]
      simp only [Act.put, List.setIfInBounds_toArray, List.set_cons_zero, List.set_cons_succ]
      refine handRead 11 (some 35) (.bool false) rfl rfl (by kernel_rfl) (by kernel_rfl) (by kernel_rfl) (fun _ _ _ h => h) (by kernel_rfl) (by assumption) ?_ ?_
      · intro w hSw
        (try dsimp only at hSw)
        go_simp
      simp only [Act.put, List.setIfInBounds_toArray, List.set_cons_zero, List.set_cons_succ]
      refine handRead 12 (some 2) (.bool false) rfl rfl (by kernel_rfl) (by kernel_rfl) (by kernel_rfl) (fun _ _ _ h => h) (by kernel_rfl) (by assumption) ?_ ?_
      · intro w hSw
        (try dsimp only at hSw)
        go_simp
      simp only [Act.put, List.setIfInBounds_toArray, List.set_cons_zero, List.set_cons_succ]
      refine wpAnyH_done (by kernel_rfl) ?_ _
      go_wp2
      go_ret
      exact ⟨ret_bool HE.out.symm, HB3.out⟩

set_option maxRecDepth 100000 in
set_option maxHeartbeats 4000000 in
theorem specGoodSm_any (W : World) (v : Value) (s : SmD) (h : LiesHv W v s.Hs) (hl : s.Hs.length ≤ 2097152) :
    Calls Try.prog 15 #[.agg #[.int .i64 s.Lo, .int .i64 s.Hi, v]] W fun e W' => e = .returned (.bool (goodSm s)) ∧ Below W.heap.size W W' := by
  obtain ⟨a1, c1, rfl⟩ := h.shape
  have HX : Hid (∀ w', Below (W.alloc (.cells #[.int .i64 s.Lo, .int .i64 s.Hi, .slice a1 s.Hs.length c1] 32)).heap.size (W.alloc (.cells #[.int .i64 s.Lo, .int .i64 s.Hi, .slice a1 s.Hs.length c1] 32)) w' → w'.cell? ⟨W.heap.size, 0, none⟩ = some (.int .i64 s.Lo) ∧ w'.cell? ⟨W.heap.size, 1, none⟩ = some (.int .i64 s.Hi) ∧ w'.cell? ⟨W.heap.size, 2, none⟩ = some (.slice a1 s.Hs.length c1)) := smNew W _ _ _
  have HB1 : Hid (Below W.heap.size W (W.alloc (.cells #[.int .i64 s.Lo, .int .i64 s.Hi, .slice a1 s.Hs.length c1] 32))) := (Below.refl _ W).alloc (Nat.le_refl _) _
  have CG : Hid (∀ w', Below W.heap.size W w' → Calls Try.prog 23 #[.slice a1 s.Hs.length c1] w' fun e W' => e = .returned (.bool (goodHv s.Hs)) ∧ Below w'.heap.size w' W') := fun w' hb => specGoodHv_any _ _ s.Hs (h.below hb).reads (by omega)
  have HS : Hid (∀ k (hk : k < s.Hs.length), ¬ (s.Lo ≤ s.Hs[k].From ∧ s.Hs[k].From ≤ s.Hi) → goodSm s = false) := fun k hk => goodSm_some k hk
  have HC : Hid ((goodHv s.Hs = false → goodSm s = false) ∧ (¬ (1 ≤ s.Lo ∧ s.Lo ≤ s.Hi ∧ s.Hi ≤ 1000) → goodSm s = false) ∧ (goodHv s.Hs = true → (1 ≤ s.Lo ∧ s.Lo ≤ s.Hi ∧ s.Hi ≤ 1000) → (∀ k (hk : k < s.Hs.length), s.Lo ≤ s.Hs[k].From ∧ s.Hs[k].From ≤ s.Hi) → goodSm s = true)) := ⟨goodSm_bad, goodSm_range, fun hg h2 h3 => by
    rw [goodSm_all hg h2, List.all_eq_true]
    intro x hx
    obtain ⟨k, hk, rfl⟩ := List.getElem_of_mem hx
    exact decide_eq_true (h3 k hk)⟩
  generalize goodSm s = gs at *
  generalize s.Lo = lo at *
  generalize s.Hi = hi at *
  generalize s.Hs = zs at *
  clear s
  have END : ∀ (X : World), True := fun _ => trivial
  clear END
  rcases h with ⟨hv, rfl⟩ | ⟨g1, o1, cap, hv, hg1, hcap, hcell⟩
  · simp only [List.length_nil] at *
    obtain ⟨q0, q1, q2⟩ := HX.out _ (Below.refl _ _)
    clear HS hl hv q0 q1 q2
    go_enter Try.func15, Try.ntmps15
    go_wp2
    refine wp_loop_rounds 1 ?_
    rw [rounds_succ]
    go_wp2_with fail
    refine (CG.out _ HB1.out).mono ?_
    rintro e w2 ⟨rfl, hb2⟩
    obtain ⟨q0, q1, q2⟩ := HX.out w2 hb2
    have HB2 : Hid (Below W.heap.size W w2) := HB1.out.trans (hb2.mono HB1.out.size)
    have HA : Hid (∀ k (hk : k < ([] : List HvD).length), lo ≤ ([] : List HvD)[k].From ∧ ([] : List HvD)[k].From ≤ hi) := fun k hk => absurd hk (Nat.not_lt_zero _)
    clear hb2
    cases hg : goodHv [] with
    | false =>
      have HZ : Hid (gs = false) := HC.out.1 hg
      clear hg HA
      go_wp2
      go_ret
      exact ⟨ret_bool HZ.out.symm, HB2.out⟩
    | true =>
      by_cases h1 : 1 ≤ lo
      · have d1 : decide (1 ≤ lo) = true := decide_eq_true h1
        by_cases h2 : lo ≤ hi
        · have d2 : decide (lo ≤ hi) = true := decide_eq_true h2
          by_cases h3 : hi ≤ 1000
          · have d3 : decide (hi ≤ 1000) = true := decide_eq_true h3
            have HZ : Hid (gs = true) := HC.out.2.2 hg ⟨h1, h2, h3⟩ HA.out
            clear hg HA h1 h2 h3
            go_wp2
            go_ret
            exact ⟨ret_bool HZ.out.symm, HB2.out⟩
          · have d3 : decide (hi ≤ 1000) = false := decide_eq_false h3
            have HZ : Hid (gs = false) := HC.out.2.1 (by omega)
            clear hg HA h1 h2 h3
            go_wp2
            go_ret
            exact ⟨ret_bool HZ.out.symm, HB2.out⟩
        · have d2 : decide (lo ≤ hi) = false := decide_eq_false h2
          have HZ : Hid (gs = false) := HC.out.2.1 (by omega)
          clear hg HA h1 h2
          go_wp2
          go_ret
          exact ⟨ret_bool HZ.out.symm, HB2.out⟩
      · have d1 : decide (1 ≤ lo) = false := decide_eq_false h1
        have HZ : Hid (gs = false) := HC.out.2.1 (by omega)
        clear hg HA h1
        go_wp2
        go_ret
        exact ⟨ret_bool HZ.out.symm, HB2.out⟩
  · simp only [Value.slice.injEq] at hv
    obtain ⟨rfl, -, rfl⟩ := hv
    have HC1 : Hid (∀ wr, Below W.heap.size W wr → ∀ j (hj : j < zs.length), HvAt wr g1 (o1 + j * 2) zs[j]) := fun wr hB j hj => (hcell j hj).below hg1 hB
    clear hcell hg1
    obtain ⟨q0, q1, q2⟩ := HX.out _ (Below.refl _ _)
    have HK0 : Hid ((∀ j (hj : j < zs.length), j < 0 → lo ≤ zs[j].From ∧ zs[j].From ≤ hi) ∧ Below (W.alloc (.cells #[.int .i64 lo, .int .i64 hi, .slice (some ⟨g1, o1, none⟩) zs.length c1] 32)).heap.size (W.alloc (.cells #[.int .i64 lo, .int .i64 hi, .slice (some ⟨g1, o1, none⟩) zs.length c1] 32)) (W.alloc (.cells #[.int .i64 lo, .int .i64 hi, .slice (some ⟨g1, o1, none⟩) zs.length c1] 32))) := ⟨fun j hj h => absurd h (Nat.not_lt_zero _), Below.refl _ _⟩
    clear q0 q1 q2
    go_enter Try.func15, Try.ntmps15
    go_wp2
    go_loopw [8] (fun i wr => ∃ k : Nat, k ≤ zs.length ∧ i = .int .i64 k ∧ Hid ((∀ j (hj : j < zs.length), j < k → lo ≤ zs[j].From ∧ zs[j].From ≤ hi) ∧ Below (W.alloc (.cells #[.int .i64 lo, .int .i64 hi, .slice (some ⟨g1, o1, none⟩) zs.length c1] 32)).heap.size (W.alloc (.cells #[.int .i64 lo, .int .i64 hi, .slice (some ⟨g1, o1, none⟩) zs.length c1] 32)) wr)) (fun i _ => zs.length - (intOf i).toNat)
    case atStart => exact ⟨0, Nat.zero_le _, rfl, HK0.out⟩
    case round =>
      obtain ⟨k, hk, rfl, HK⟩ := hrel
      have HBW : Hid (Below W.heap.size W wr) := HB1.out.trans (HK.out.2.mono HB1.out.size)
      by_cases hlt : k < zs.length
      · have hlt' : (k : Int) < (zs.length : Int) := by omega
        obtain ⟨m0, m1⟩ := HC1.out wr HBW.out k hlt
        obtain ⟨q0, q1, q2⟩ := HX.out wr HK.out.2
        have HZ : Hid (¬ (lo ≤ zs[k].From ∧ zs[k].From ≤ hi) → gs = false) := HS.out k hlt
        have HA1 : Hid ((lo ≤ zs[k].From ∧ zs[k].From ≤ hi) → ∀ j (hj : j < zs.length), j < k + 1 → lo ≤ zs[j].From ∧ zs[j].From ≤ hi) := fun h j hj hjk => by
          by_cases e : j = k
          · subst e; exact h
          · exact HK.out.1 j hj (by omega)
        have HN : Hid (Below (W.alloc (.cells #[.int .i64 lo, .int .i64 hi, .slice (some ⟨g1, o1, none⟩) zs.length c1] 32)).heap.size (W.alloc (.cells #[.int .i64 lo, .int .i64 hi, .slice (some ⟨g1, o1, none⟩) zs.length c1] 32)) (wr.alloc (.cells #[.int .i64 zs[k].From, .int .i64 zs[k].Seq] 41)) ∧ Below W.heap.size W (wr.alloc (.cells #[.int .i64 zs[k].From, .int .i64 zs[k].Seq] 41))) := ⟨HK.out.2.alloc HK.out.2.size _, HBW.out.alloc HBW.out.size _⟩
        have hbig : W.heap.size < wr.heap.size := by have := HK.out.2.size; simp at this; omega
        clear HK HBW
        generalize zs[k].From = fr at *
        generalize zs[k].Seq = sq at *
        go_wp2_with fail
        refine (l1In_any _ _ _ _).mono ?_
        rintro e w2 ⟨rfl, rfl⟩
        by_cases hin : lo ≤ fr ∧ fr ≤ hi
        · rw [decide_eq_true hin]
          have HA2 : Hid (∀ j (hj : j < zs.length), j < k + 1 → lo ≤ zs[j].From ∧ zs[j].From ≤ hi) := HA1.out hin
          clear hin HZ HA1
          go_wp2
          go_roundw
          case rel => exact ⟨k + 1, by omega, by go_num, HA2.out, HN.out.1⟩
          case measure => simp [intOf]; omega
        · rw [decide_eq_false hin]
          have HF : Hid (gs = false) := HZ.out hin
          clear hin HZ HA1
          go_wp2
          go_ret
          exact ⟨ret_bool HF.out.symm, HN.out.2⟩
      · have hlt' : ¬ (k : Int) < (zs.length : Int) := by omega
        have HA : Hid (∀ k (hk : k < zs.length), lo ≤ zs[k].From ∧ zs[k].From ≤ hi) := fun j hj => HK.out.1 j hj (by omega)
        obtain ⟨q0, q1, q2⟩ := HX.out wr HK.out.2
        go_wp2_with fail
        refine (CG.out _ HBW.out).mono ?_
        rintro e w2 ⟨rfl, hb2⟩
        obtain ⟨q0, q1, q2⟩ := HX.out w2 (HK.out.2.trans (hb2.mono HK.out.2.size))
        have HB2 : Hid (Below W.heap.size W w2) := HBW.out.trans (hb2.mono HBW.out.size)
        clear hb2 HK HBW
        cases hg : goodHv zs with
        | false =>
          have HZ : Hid (gs = false) := HC.out.1 hg
          clear hg HA
          go_wp2
          go_ret
          exact ⟨ret_bool HZ.out.symm, HB2.out⟩
        | true =>
          by_cases h1 : 1 ≤ lo
          · have d1 : decide (1 ≤ lo) = true := decide_eq_true h1
            by_cases h2 : lo ≤ hi
            · have d2 : decide (lo ≤ hi) = true := decide_eq_true h2
              by_cases h3 : hi ≤ 1000
              · have d3 : decide (hi ≤ 1000) = true := decide_eq_true h3
                have HZ : Hid (gs = true) := HC.out.2.2 hg ⟨h1, h2, h3⟩ HA.out
                clear hg HA h1 h2 h3
                go_wp2
                go_ret
                exact ⟨ret_bool HZ.out.symm, HB2.out⟩
              · have d3 : decide (hi ≤ 1000) = false := decide_eq_false h3
                have HZ : Hid (gs = false) := HC.out.2.1 (by omega)
                clear hg HA h1 h2 h3
                go_wp2
                go_ret
                exact ⟨ret_bool HZ.out.symm, HB2.out⟩
            · have d2 : decide (lo ≤ hi) = false := decide_eq_false h2
              have HZ : Hid (gs = false) := HC.out.2.1 (by omega)
              clear hg HA h1 h2
              go_wp2
              go_ret
              exact ⟨ret_bool HZ.out.symm, HB2.out⟩
          · have d1 : decide (1 ≤ lo) = false := decide_eq_false h1
            have HZ : Hid (gs = false) := HC.out.2.1 (by omega)
            clear hg HA h1
            go_wp2
            go_ret
            exact ⟨ret_bool HZ.out.symm, HB2.out⟩
end Go.Proofs.Ytkpdiojomgiocac
