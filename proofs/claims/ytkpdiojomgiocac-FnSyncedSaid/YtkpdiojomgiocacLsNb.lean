/-
  'newsBetween' of the program.
-/
import Derived.Test.YtkpdiojomgiocacLsNews
import Derived.Test.YtkpdiojomgiocacLsGoodSm2
namespace Go.Proofs.Ytkpdiojomgiocac
open Go.RowKit
set_option linter.unusedVariables false

set_option maxRecDepth 100000 in
set_option maxHeartbeats 4000000 in
theorem newsBetween_any (W : World) (v1 v2 : Value) (l : List HvD) (s : SmD) (h1 : LiesHv W v1 l) (h2 : LiesHv W v2 s.Hs) (hl : Rise l ∧ FitHv l) (hs : Rise s.Hs ∧ FitHv s.Hs) :
    Calls Try.prog 31 #[v1, .agg #[.int .i64 s.Lo, .int .i64 s.Hi, v2]] W fun e W' => ∃ u1 u2, e = .returned (.tuple #[u1, u2]) ∧ OwnHv W' W.heap.size u1 (newsHv s.Hs l) ∧ OwnHv W' W.heap.size u2 (beyondHv l s) ∧ (∀ k, u1.ownBlock = some k → u2.ownBlock ≠ some k) ∧ Below W.heap.size W W' := by
  obtain ⟨a1, c1, rfl⟩ := h1.shape
  obtain ⟨a2, c2, rfl⟩ := h2.shape
  have hll := rise_len hl.1 hl.2
  have HB1 : Hid (Below W.heap.size W (W.alloc (.cells #[.int .i64 s.Lo, .int .i64 s.Hi, .slice a2 s.Hs.length c2] 32))) := (Below.refl _ W).alloc (Nat.le_refl _) _
  have HX : Hid (∀ w', Since (W.alloc (.cells #[.int .i64 s.Lo, .int .i64 s.Hi, .slice a2 s.Hs.length c2] 32)).heap.size (W.alloc (.cells #[.int .i64 s.Lo, .int .i64 s.Hi, .slice a2 s.Hs.length c2] 32)) w' → w'.cell? ⟨W.heap.size, 0, none⟩ = some (.int .i64 s.Lo) ∧ w'.cell? ⟨W.heap.size, 1, none⟩ = some (.int .i64 s.Hi) ∧ w'.cell? ⟨W.heap.size, 2, none⟩ = some (.slice a2 s.Hs.length c2)) := fun w' hs => smNew W _ _ _ w' hs.1
  have CN1 : Hid (∀ w', Since (W.alloc (.cells #[.int .i64 s.Lo, .int .i64 s.Hi, .slice a2 s.Hs.length c2] 32)).heap.size (W.alloc (.cells #[.int .i64 s.Lo, .int .i64 s.Hi, .slice a2 s.Hs.length c2] 32)) w' → Calls Try.prog 46 #[.slice a2 s.Hs.length c2, .slice a1 l.length c1] w' fun e W' => ∃ v, e = .returned v ∧ OwnHv W' w'.heap.size v (newsHv s.Hs l) ∧ Below w'.heap.size w' W') := fun w' hb => newsIn_any w' _ _ s.Hs l ((h2.below HB1.out).below hb.1).reads ((h1.below HB1.out).below hb.1).reads hs hl
  have CW : Hid (∀ w', Since (W.alloc (.cells #[.int .i64 s.Lo, .int .i64 s.Hi, .slice a2 s.Hs.length c2] 32)).heap.size (W.alloc (.cells #[.int .i64 s.Lo, .int .i64 s.Hi, .slice a2 s.Hs.length c2] 32)) w' → Calls Try.prog 40 #[.slice a1 l.length c1, .int .i64 s.Lo, .int .i64 s.Hi] w' fun e W' => ∃ v', e = .returned v' ∧ OwnHv W' w'.heap.size v' (withinHv l s.Lo s.Hi) ∧ Below w'.heap.size w' W') := fun w' hb => havesWithin_any w' _ l s.Lo s.Hi ((h1.below HB1.out).below hb.1).reads (by omega)
  have CN2 : Hid (∀ w' B v, Since (W.alloc (.cells #[.int .i64 s.Lo, .int .i64 s.Hi, .slice a2 s.Hs.length c2] 32)).heap.size (W.alloc (.cells #[.int .i64 s.Lo, .int .i64 s.Hi, .slice a2 s.Hs.length c2] 32)) w' → OwnHv w' B v (withinHv l s.Lo s.Hi) → Calls Try.prog 46 #[v, .slice a2 s.Hs.length c2] w' fun e W' => ∃ v, e = .returned v ∧ OwnHv W' w'.heap.size v (beyondHv l s) ∧ Below w'.heap.size w' W') := fun w' B v hb ho => newsIn_any w' _ _ _ s.Hs ho.reads ((h2.below HB1.out).below hb.1).reads ⟨filter_rise hl.1 _, filter_fit hl.2 _⟩ hs
  clear h1 h2 hll
  go_enter Try.func31, Try.ntmps31
  go_wp2
  have SA0 := Since.start (W.alloc (.cells #[.int .i64 s.Lo, .int .i64 s.Hi, .slice a2 s.Hs.length c2] 32))
  refine wp_region_held_drew (S := (fun w' => w'.cell? ⟨W.heap.size, 0, none⟩ = some (.int .i64 s.Lo) ∧ w'.cell? ⟨W.heap.size, 1, none⟩ = some (.int .i64 s.Hi) ∧ w'.cell? ⟨W.heap.size, 2, none⟩ = some (.slice a2 s.Hs.length c2))) (by kernel_rfl) ?_ (fun hHeld => ?_)
  · exact HX.out _ SA0.drew
  refine handRead 0 (some 6) (.pointer (some ⟨W.heap.size, 2, none⟩)) rfl rfl (by kernel_rfl) (by kernel_rfl) (by kernel_rfl) (fun _ _ _ h => h) (by kernel_rfl) (by assumption) ?_ ?_
  · intro w hSw
    (try dsimp only at hSw)
    go_simp
  simp only [Act.put, List.setIfInBounds_toArray, List.set_cons_zero, List.set_cons_succ]
  refine handRead 1 (some 7) (.slice a2 s.Hs.length c2) rfl rfl (by kernel_rfl) (by kernel_rfl) (by kernel_rfl) (fun _ _ _ h => h) (by kernel_rfl) (by assumption) ?_ ?_
  · intro w hSw
    (try dsimp only at hSw)
    go_simp
  simp only [Act.put, List.setIfInBounds_toArray, List.set_cons_zero, List.set_cons_succ]
  refine handRead 2 (some 8) (.slice a1 l.length c1) rfl rfl (by kernel_rfl) (by kernel_rfl) (by kernel_rfl) (fun _ _ _ h => h) (by kernel_rfl) (by assumption) ?_ ?_
  · intro w hSw
    (try dsimp only at hSw)
    go_simp
  simp only [Act.put, List.setIfInBounds_toArray, List.set_cons_zero, List.set_cons_succ]
  refine handRead 4 (some 10) (.slice a1 l.length c1) rfl rfl (by kernel_rfl) (by kernel_rfl) (by kernel_rfl) (fun _ _ _ h => h) (by kernel_rfl) (by assumption) ?_ ?_
  · intro w hSw
    (try dsimp only at hSw)
    go_simp
  simp only [Act.put, List.setIfInBounds_toArray, List.set_cons_zero, List.set_cons_succ]
  refine handRead 5 (some 11) (.pointer (some ⟨W.heap.size, 0, none⟩)) rfl rfl (by kernel_rfl) (by kernel_rfl) (by kernel_rfl) (fun _ _ _ h => h) (by kernel_rfl) (by assumption) ?_ ?_
  · intro w hSw
    (try dsimp only at hSw)
    go_simp
  simp only [Act.put, List.setIfInBounds_toArray, List.set_cons_zero, List.set_cons_succ]
  refine handRead 6 (some 12) (.int .i64 s.Lo) rfl rfl (by kernel_rfl) (by kernel_rfl) (by kernel_rfl) (fun _ _ _ h => h) (by kernel_rfl) (by assumption) ?_ ?_
  · intro w hSw
    (try dsimp only at hSw)
    go_simp
  simp only [Act.put, List.setIfInBounds_toArray, List.set_cons_zero, List.set_cons_succ]
  refine handRead 7 (some 13) (.pointer (some ⟨W.heap.size, 1, none⟩)) rfl rfl (by kernel_rfl) (by kernel_rfl) (by kernel_rfl) (fun _ _ _ h => h) (by kernel_rfl) (by assumption) ?_ ?_
  · intro w hSw
    (try dsimp only at hSw)
    go_simp
  simp only [Act.put, List.setIfInBounds_toArray, List.set_cons_zero, List.set_cons_succ]
  refine handRead 8 (some 14) (.int .i64 s.Hi) rfl rfl (by kernel_rfl) (by kernel_rfl) (by kernel_rfl) (fun _ _ _ h => h) (by kernel_rfl) (by assumption) ?_ ?_
  · intro w hSw
    (try dsimp only at hSw)
    go_simp
  simp only [Act.put, List.setIfInBounds_toArray, List.set_cons_zero, List.set_cons_succ]
  refine handRead 10 (some 16) (.pointer (some ⟨W.heap.size, 2, none⟩)) rfl rfl (by kernel_rfl) (by kernel_rfl) (by kernel_rfl) (fun _ _ _ h => h) (by kernel_rfl) (by assumption) ?_ ?_
  · intro w hSw
    (try dsimp only at hSw)
    go_simp
  simp only [Act.put, List.setIfInBounds_toArray, List.set_cons_zero, List.set_cons_succ]
  refine handRead 11 (some 17) (.slice a2 s.Hs.length c2) rfl rfl (by kernel_rfl) (by kernel_rfl) (by kernel_rfl) (fun _ _ _ h => h) (by kernel_rfl) (by assumption) ?_ ?_
  · intro w hSw
    (try dsimp only at hSw)
    go_simp
  simp only [Act.put, List.setIfInBounds_toArray, List.set_cons_zero, List.set_cons_succ]
  refine handCall 3 (some 9) 46 #[.slice a2 s.Hs.length c2, .slice a1 l.length c1] (by kernel_rfl) rfl rfl (by kernel_rfl) (by simp [go_sem]) ((CN1.out _ SA0.drew).mono ?_)
  rintro e w3 ⟨v3, rfl, ho3, hb3⟩
  have SA1 := SA0.drew.step hb3
  have O3 : Hid (OwnHv w3 W.heap.size v3 (newsHv s.Hs l)) := ho3.mono (by simp)
  clear hHeld ho3 hb3
  refine ⟨_, rfl, (by exact HX.out _ SA1), fun hHeld => ?_⟩
  simp only [Act.put, List.setIfInBounds_toArray, List.set_cons_zero, List.set_cons_succ]
  refine handCall 9 (some 15) 40 #[.slice a1 l.length c1, .int .i64 s.Lo, .int .i64 s.Hi] (by kernel_rfl) rfl rfl (by kernel_rfl) (by simp [go_sem]) ((CW.out _ SA1).mono ?_)
  rintro e w4 ⟨v4, rfl, ho4, hb4⟩
  have SA2 := SA1.step hb4
  have O4 : Hid (OwnHv w4 W.heap.size v3 (newsHv s.Hs l)) := O3.out.below hb4
  have WI4 : Hid (OwnHv w4 w3.heap.size v4 (withinHv l s.Lo s.Hi)) := ho4
  clear hHeld ho4 hb4
  refine ⟨_, rfl, (by exact HX.out _ SA2), fun hHeld => ?_⟩
  simp only [Act.put, List.setIfInBounds_toArray, List.set_cons_zero, List.set_cons_succ]
  refine handCall 12 (some 18) 46 #[v4, .slice a2 s.Hs.length c2] (by kernel_rfl) rfl rfl (by kernel_rfl) (by simp [go_sem]) ((CN2.out _ _ _ SA2 WI4.out).mono ?_)
  rintro e w5 ⟨v5, rfl, ho5, hb5⟩
  have SA3 := SA2.step hb5
  have O5 : Hid (OwnHv w5 W.heap.size v3 (newsHv s.Hs l)) := O4.out.below hb5
  have AP5 : Hid (∀ k, v3.ownBlock = some k → v5.ownBlock ≠ some k) := rowsApartLt O4.out ho5 (Nat.le_refl _)
  have P5 : Hid (OwnHv w5 W.heap.size v5 (beyondHv l s)) := ho5.mono (Nat.le_trans (Nat.le_of_lt (by simp)) SA2.2)
  clear hHeld ho5 hb5
  refine ⟨_, rfl, (by exact HX.out _ SA3), fun hHeld => ?_⟩
  simp only [Act.put, List.setIfInBounds_toArray, List.set_cons_zero, List.set_cons_succ]
  refine handRead 13 (some 4) (v3) rfl rfl (by kernel_rfl) (by kernel_rfl) (by kernel_rfl) (fun _ _ _ h => h) (by kernel_rfl) (by assumption) ?_ ?_
  · intro w hSw
    (try dsimp only at hSw)
    go_simp
  simp only [Act.put, List.setIfInBounds_toArray, List.set_cons_zero, List.set_cons_succ]
  refine handRead 14 (some 5) (v5) rfl rfl (by kernel_rfl) (by kernel_rfl) (by kernel_rfl) (fun _ _ _ h => h) (by kernel_rfl) (by assumption) ?_ ?_
  · intro w hSw
    (try dsimp only at hSw)
    go_simp
  simp only [Act.put, List.setIfInBounds_toArray, List.set_cons_zero, List.set_cons_succ]
  refine wpAnyH_done (by kernel_rfl) ?_ _
  go_wp2
  refine bodyPost_ret (results_tmp2 rfl _ _ _) rfl ?_
  exact ⟨_, _, rfl, O5.out, P5.out, AP5.out, HB1.out.trans (SA3.1.mono HB1.out.size)⟩
end Go.Proofs.Ytkpdiojomgiocac
