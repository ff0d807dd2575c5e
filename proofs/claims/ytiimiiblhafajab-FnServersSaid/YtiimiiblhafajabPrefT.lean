/-
  'weightOf' and 'prefers' of a group, 'bestUp' with it; 'l4Score' of the model.
-/
import Derived.Test.YtiimiiblhafajabBestT
import Derived.Test.YtiimiiblhafajabHand
namespace Go.Proofs.Ytiimiiblhafajab
open Go.RowKit
set_option linter.unusedVariables false

/-- How a group weighs an Id. -/
def scoreB (id g : Int) : Int := (id * 7 + g * 13) % 101
def prefB (g : Int) (x y : BrD) : Bool := if scoreB x.id g = scoreB y.id g then decide (x.id < y.id) else decide (scoreB y.id g < scoreB x.id g)

theorem weightOf_any (W : World) (x : BrD) (g : Int) (hx : goodB x = true) (hg : 0 ≤ g ∧ g ≤ 40) : Calls Try.prog 55 #[.int .i64 g, .agg #[.int .i64 x.id, .int .i64 x.rank, .bool x.up]] W fun e W' => e = .returned (.int .i64 (scoreB x.id g)) ∧ Below W.heap.size W W' := by
  have HB : Hid (Below W.heap.size W (W.alloc (.cells #[.int .i64 x.id, .int .i64 x.rank, .bool x.up] 35))) := (Below.refl _ W).alloc (Nat.le_refl _) _
  have hi := goodB_id x hx
  have i1 : 1 ≤ x.id := hi.1
  have i2 : x.id ≤ 1000 := hi.2.1
  have g1 : 0 ≤ g := hg.1
  have g2 : g ≤ 40 := hg.2
  have HE : Hid (scoreB x.id g = (x.id * 7 + g * 13) % 101) := rfl
  have htm : (x.id * 7 + g * 13).tmod 101 = (x.id * 7 + g * 13) % 101 := Int.tmod_eq_emod_of_nonneg (by omega)
  clear hi hg hx
  go_enter Try.func55, Try.ntmps55
  go_wp2
  go_ret
  exact ⟨retI HE.out.symm, HB.out⟩

theorem l4Score_any (W : World) (id g : Int) (hx : 0 ≤ id ∧ id ≤ 1000) (hg : 0 ≤ g ∧ g ≤ 40) : Calls Try.prog 53 #[.int .i64 id, .int .i64 g] W fun e W' => e = .returned (.int .i64 (scoreB id g)) ∧ W' = W := by
  have i1 : 0 ≤ id := hx.1
  have i2 : id ≤ 1000 := hx.2
  have g1 : 0 ≤ g := hg.1
  have g2 : g ≤ 40 := hg.2
  have HE : Hid ((7 * id + 13 * g) % 101 = scoreB id g) := by show _ = _; unfold scoreB; congr 1; omega
  have htm : (7 * id + 13 * g).tmod 101 = (7 * id + 13 * g) % 101 := Int.tmod_eq_emod_of_nonneg (by omega)
  clear hg hx
  go_enter Try.func53, Try.ntmps53
  go_wp2
  go_ret
  exact ⟨retI HE.out, rfl⟩

set_option maxRecDepth 100000 in
set_option maxHeartbeats 4000000 in
theorem prefers_any (W : World) (g : Int) (x y : BrD) (hx : goodB x = true) (hy : goodB y = true) (hg : 0 ≤ g ∧ g ≤ 40) :
    Calls Try.prog 52 #[.int .i64 g, .agg #[.int .i64 x.id, .int .i64 x.rank, .bool x.up], .agg #[.int .i64 y.id, .int .i64 y.rank, .bool y.up]] W fun e W' => e = .returned (.bool (prefB g x y)) ∧ Below W.heap.size W W' := by
  have HB : Hid (∀ w', Since ((W.alloc (.cells #[.int .i64 x.id, .int .i64 x.rank, .bool x.up] 35)).alloc (.cells #[.int .i64 y.id, .int .i64 y.rank, .bool y.up] 35)).heap.size ((W.alloc (.cells #[.int .i64 x.id, .int .i64 x.rank, .bool x.up] 35)).alloc (.cells #[.int .i64 y.id, .int .i64 y.rank, .bool y.up] 35)) w' → Bx3 w' W.heap.size (.int .i64 x.id) (.int .i64 x.rank) (.bool x.up) ∧ Bx3 w' (W.heap.size + 1) (.int .i64 y.id) (.int .i64 y.rank) (.bool y.up)) := fun w' hs => by
    refine ⟨((Bx3.new W (.int .i64 x.id) (.int .i64 x.rank) (.bool x.up) 35).below ((Below.refl _ _).alloc (Nat.le_refl _) _)).below hs.1, ?_⟩
    have := Bx3.new (W.alloc (.cells #[.int .i64 x.id, .int .i64 x.rank, .bool x.up] 35)) (.int .i64 y.id) (.int .i64 y.rank) (.bool y.up) 35
    exact (show Bx3 _ _ _ _ _ by simpa using this).below hs.1
  have HS : Hid (Since W.heap.size W ((W.alloc (.cells #[.int .i64 x.id, .int .i64 x.rank, .bool x.up] 35)).alloc (.cells #[.int .i64 y.id, .int .i64 y.rank, .bool y.up] 35))) := (Since.start W).step (((Below.refl _ W).alloc (Nat.le_refl _) _).alloc (by simp) _)
  obtain ⟨sx, hsx⟩ : ∃ sx, sx = scoreB x.id g := ⟨_, rfl⟩
  obtain ⟨sy, hsy⟩ : ∃ sy, sy = scoreB y.id g := ⟨_, rfl⟩
  have CX : Hid (∀ w, Calls Try.prog 55 #[.int .i64 g, .agg #[.int .i64 x.id, .int .i64 x.rank, .bool x.up]] w fun e w' => e = .returned (.int .i64 sx) ∧ Below w.heap.size w w') := fun w => by rw [hsx]; exact weightOf_any w x g hx hg
  have CY : Hid (∀ w, Calls Try.prog 55 #[.int .i64 g, .agg #[.int .i64 y.id, .int .i64 y.rank, .bool y.up]] w fun e w' => e = .returned (.int .i64 sy) ∧ Below w.heap.size w w') := fun w => by rw [hsy]; exact weightOf_any w y g hy hg
  have HP : Hid (prefB g x y = if sx = sy then decide (x.id < y.id) else decide (sy < sx)) := by show _ = _; unfold prefB; rw [hsx, hsy]
  clear hx hy hg hsx hsy
  by_cases he : sx = sy
  · have HE : Hid (decide (x.id < y.id) = prefB g x y) := by show _ = _; rw [HP.out, if_pos he]
    subst he
    clear HP
    go_enter Try.func52, Try.ntmps52
    go_wp2
    have SA0 := Since.start ((W.alloc (.cells #[.int .i64 x.id, .int .i64 x.rank, .bool x.up] 35)).alloc (.cells #[.int .i64 y.id, .int .i64 y.rank, .bool y.up] 35))
    refine wp_region_held_drew (S := (fun w' => (w'.cell? ⟨W.heap.size, 0, none⟩ = some (.int .i64 x.id) ∧ w'.cell? ⟨W.heap.size, 1, none⟩ = some (.int .i64 x.rank) ∧ w'.cell? ⟨W.heap.size, 2, none⟩ = some (.bool x.up)) ∧ (w'.cell? ⟨W.heap.size + 1, 0, none⟩ = some (.int .i64 y.id) ∧ w'.cell? ⟨W.heap.size + 1, 1, none⟩ = some (.int .i64 y.rank) ∧ w'.cell? ⟨W.heap.size + 1, 2, none⟩ = some (.bool y.up)))) (by kernel_rfl) ?_ (fun hHeld => ?_)
    · exact ⟨(HB.out _ SA0.drew).1.cells, (HB.out _ SA0.drew).2.cells⟩
    refine handRead 0 (some 7) (.int .i64 g) rfl rfl (by kernel_rfl) (by kernel_rfl) (by kernel_rfl) (fun _ _ _ h => h) (by kernel_rfl) (by assumption) ?_ ?_
    · intro w hSw
      (try dsimp only at hSw)
      go_simp
    simp only [Act.put, List.setIfInBounds_toArray, List.set_cons_zero, List.set_cons_succ]
    refine handRead 1 (some 8) (.agg #[.int .i64 x.id, .int .i64 x.rank, .bool x.up]) rfl rfl (by kernel_rfl) (by kernel_rfl) (by kernel_rfl) (fun _ _ _ h => h) (by kernel_rfl) (by assumption) ?_ ?_
    · intro w hSw
      (try dsimp only at hSw)
      go_simp
    simp only [Act.put, List.setIfInBounds_toArray, List.set_cons_zero, List.set_cons_succ]
    refine handRead 3 (some 10) (.int .i64 g) rfl rfl (by kernel_rfl) (by kernel_rfl) (by kernel_rfl) (fun _ _ _ h => h) (by kernel_rfl) (by assumption) ?_ ?_
    · intro w hSw
      (try dsimp only at hSw)
      go_simp
    simp only [Act.put, List.setIfInBounds_toArray, List.set_cons_zero, List.set_cons_succ]
    refine handRead 4 (some 11) (.agg #[.int .i64 y.id, .int .i64 y.rank, .bool y.up]) rfl rfl (by kernel_rfl) (by kernel_rfl) (by kernel_rfl) (fun _ _ _ h => h) (by kernel_rfl) (by assumption) ?_ ?_
    · intro w hSw
      (try dsimp only at hSw)
      go_simp
    simp only [Act.put, List.setIfInBounds_toArray, List.set_cons_zero, List.set_cons_succ]
    refine handCall 2 (some 9) 55 #[.int .i64 g, .agg #[.int .i64 x.id, .int .i64 x.rank, .bool x.up]] (by kernel_rfl) rfl rfl (by kernel_rfl) (by simp [go_sem]) ((CX.out _).mono ?_)
    rintro e waSA0 ⟨rfl, hbaSA0⟩
    have SBSA0 := SA0.drew.step hbaSA0
    clear hHeld
    refine ⟨_, rfl, (by exact ⟨(HB.out _ SBSA0).1.cells, (HB.out _ SBSA0).2.cells⟩), fun hHeld => ?_⟩
    simp only [Act.put, List.setIfInBounds_toArray, List.set_cons_zero, List.set_cons_succ]
    refine handCall 5 (some 12) 55 #[.int .i64 g, .agg #[.int .i64 y.id, .int .i64 y.rank, .bool y.up]] (by kernel_rfl) rfl rfl (by kernel_rfl) (by simp [go_sem]) ((CY.out _).mono ?_)
    rintro e wbSA0 ⟨rfl, hbbSA0⟩
    have SCSA0 := SBSA0.step hbbSA0
    clear hHeld
    refine ⟨_, rfl, (by exact ⟨(HB.out _ SCSA0).1.cells, (HB.out _ SCSA0).2.cells⟩), fun hHeld => ?_⟩
    simp only [Act.put, List.setIfInBounds_toArray, List.set_cons_zero, List.set_cons_succ]
    refine handRead 6 (some 13) (.bool false) rfl rfl (by kernel_rfl) (by kernel_rfl) (by kernel_rfl) (fun _ _ _ h => h) (by kernel_rfl) (by assumption) ?_ ?_
    · intro w hSw
      (try dsimp only at hSw)
      go_simp
    simp only [Act.put, List.setIfInBounds_toArray, List.set_cons_zero, List.set_cons_succ]
    refine wpAnyH_done (by kernel_rfl) ?_ _
    obtain ⟨⟨x0, x1, x2, x3, -⟩, ⟨y0, y1, y2, y3, -⟩⟩ := HB.out _ SCSA0
    have HF : Hid (Below W.heap.size W wbSA0) := (HS.out.tran SCSA0).1
    clear SCSA0 SBSA0 SA0 hbaSA0 hbbSA0 hHeld
    go_wp2
    go_ret
    exact ⟨ret_bool HE.out, HF.out⟩
  · have HE : Hid (decide (sy < sx) = prefB g x y) := by show _ = _; rw [HP.out, if_neg he]
    have hq : (sx != sy) = true := by simp [he]
    have hq2 : ¬ sx = sy := he
    clear HP he
    go_enter Try.func52, Try.ntmps52
    go_wp2
    have SA0 := Since.start ((W.alloc (.cells #[.int .i64 x.id, .int .i64 x.rank, .bool x.up] 35)).alloc (.cells #[.int .i64 y.id, .int .i64 y.rank, .bool y.up] 35))
    refine wp_region_held_drew (S := (fun w' => (w'.cell? ⟨W.heap.size, 0, none⟩ = some (.int .i64 x.id) ∧ w'.cell? ⟨W.heap.size, 1, none⟩ = some (.int .i64 x.rank) ∧ w'.cell? ⟨W.heap.size, 2, none⟩ = some (.bool x.up)) ∧ (w'.cell? ⟨W.heap.size + 1, 0, none⟩ = some (.int .i64 y.id) ∧ w'.cell? ⟨W.heap.size + 1, 1, none⟩ = some (.int .i64 y.rank) ∧ w'.cell? ⟨W.heap.size + 1, 2, none⟩ = some (.bool y.up)))) (by kernel_rfl) ?_ (fun hHeld => ?_)
    · exact ⟨(HB.out _ SA0.drew).1.cells, (HB.out _ SA0.drew).2.cells⟩
    refine handRead 0 (some 7) (.int .i64 g) rfl rfl (by kernel_rfl) (by kernel_rfl) (by kernel_rfl) (fun _ _ _ h => h) (by kernel_rfl) (by assumption) ?_ ?_
    · intro w hSw
      (try dsimp only at hSw)
      go_simp
    simp only [Act.put, List.setIfInBounds_toArray, List.set_cons_zero, List.set_cons_succ]
    refine handRead 1 (some 8) (.agg #[.int .i64 x.id, .int .i64 x.rank, .bool x.up]) rfl rfl (by kernel_rfl) (by kernel_rfl) (by kernel_rfl) (fun _ _ _ h => h) (by kernel_rfl) (by assumption) ?_ ?_
    · intro w hSw
      (try dsimp only at hSw)
      go_simp
    simp only [Act.put, List.setIfInBounds_toArray, List.set_cons_zero, List.set_cons_succ]
    refine handRead 3 (some 10) (.int .i64 g) rfl rfl (by kernel_rfl) (by kernel_rfl) (by kernel_rfl) (fun _ _ _ h => h) (by kernel_rfl) (by assumption) ?_ ?_
    · intro w hSw
      (try dsimp only at hSw)
      go_simp
    simp only [Act.put, List.setIfInBounds_toArray, List.set_cons_zero, List.set_cons_succ]
    refine handRead 4 (some 11) (.agg #[.int .i64 y.id, .int .i64 y.rank, .bool y.up]) rfl rfl (by kernel_rfl) (by kernel_rfl) (by kernel_rfl) (fun _ _ _ h => h) (by kernel_rfl) (by assumption) ?_ ?_
    · intro w hSw
      (try dsimp only at hSw)
      go_simp
    simp only [Act.put, List.setIfInBounds_toArray, List.set_cons_zero, List.set_cons_succ]
    refine handCall 2 (some 9) 55 #[.int .i64 g, .agg #[.int .i64 x.id, .int .i64 x.rank, .bool x.up]] (by kernel_rfl) rfl rfl (by kernel_rfl) (by simp [go_sem]) ((CX.out _).mono ?_)
    rintro e waSA0 ⟨rfl, hbaSA0⟩
    have SBSA0 := SA0.drew.step hbaSA0
    clear hHeld
    refine ⟨_, rfl, (by exact ⟨(HB.out _ SBSA0).1.cells, (HB.out _ SBSA0).2.cells⟩), fun hHeld => ?_⟩
    simp only [Act.put, List.setIfInBounds_toArray, List.set_cons_zero, List.set_cons_succ]
    refine handCall 5 (some 12) 55 #[.int .i64 g, .agg #[.int .i64 y.id, .int .i64 y.rank, .bool y.up]] (by kernel_rfl) rfl rfl (by kernel_rfl) (by simp [go_sem]) ((CY.out _).mono ?_)
    rintro e wbSA0 ⟨rfl, hbbSA0⟩
    have SCSA0 := SBSA0.step hbbSA0
    clear hHeld
    refine ⟨_, rfl, (by exact ⟨(HB.out _ SCSA0).1.cells, (HB.out _ SCSA0).2.cells⟩), fun hHeld => ?_⟩
    simp only [Act.put, List.setIfInBounds_toArray, List.set_cons_zero, List.set_cons_succ]
    refine handRead 6 (some 13) (.bool true) rfl rfl (by kernel_rfl) (by kernel_rfl) (by kernel_rfl) (fun _ _ _ h => h) (by kernel_rfl) (by assumption) ?_ ?_
    · intro w hSw
      (try dsimp only at hSw)
      go_simp
    simp only [Act.put, List.setIfInBounds_toArray, List.set_cons_zero, List.set_cons_succ]
    refine wpAnyH_done (by kernel_rfl) ?_ _
    have HF0 : Hid (Since W.heap.size W wbSA0) := HS.out.tran SCSA0
    have HB1 : Hid (∀ w', Since wbSA0.heap.size wbSA0 w' → Bx3 w' W.heap.size (.int .i64 x.id) (.int .i64 x.rank) (.bool x.up) ∧ Bx3 w' (W.heap.size + 1) (.int .i64 y.id) (.int .i64 y.rank) (.bool y.up)) := fun w' hs => HB.out w' (SCSA0.tran hs)
    clear HB SCSA0 SBSA0 SA0 hbaSA0 hbbSA0 hHeld
    generalize wbSA0 = w5 at *
    have HB := HB1
    go_wp2
    have SA5 := Since.start w5
    refine wp_region_held_drew (S := (fun w' => (w'.cell? ⟨W.heap.size, 0, none⟩ = some (.int .i64 x.id) ∧ w'.cell? ⟨W.heap.size, 1, none⟩ = some (.int .i64 x.rank) ∧ w'.cell? ⟨W.heap.size, 2, none⟩ = some (.bool x.up)) ∧ (w'.cell? ⟨W.heap.size + 1, 0, none⟩ = some (.int .i64 y.id) ∧ w'.cell? ⟨W.heap.size + 1, 1, none⟩ = some (.int .i64 y.rank) ∧ w'.cell? ⟨W.heap.size + 1, 2, none⟩ = some (.bool y.up)))) (by kernel_rfl) ?_ (fun hHeld => ?_)
    · exact ⟨(HB.out _ SA5.drew).1.cells, (HB.out _ SA5.drew).2.cells⟩
    refine handRead 0 (some 14) (.int .i64 g) rfl rfl (by kernel_rfl) (by kernel_rfl) (by kernel_rfl) (fun _ _ _ h => h) (by kernel_rfl) (by assumption) ?_ ?_
    · intro w hSw
      (try dsimp only at hSw)
      go_simp
    simp only [Act.put, List.setIfInBounds_toArray, List.set_cons_zero, List.set_cons_succ]
    refine handRead 1 (some 15) (.agg #[.int .i64 x.id, .int .i64 x.rank, .bool x.up]) rfl rfl (by kernel_rfl) (by kernel_rfl) (by kernel_rfl) (fun _ _ _ h => h) (by kernel_rfl) (by assumption) ?_ ?_
    · intro w hSw
      (try dsimp only at hSw)
      go_simp
    simp only [Act.put, List.setIfInBounds_toArray, List.set_cons_zero, List.set_cons_succ]
    refine handRead 3 (some 17) (.int .i64 g) rfl rfl (by kernel_rfl) (by kernel_rfl) (by kernel_rfl) (fun _ _ _ h => h) (by kernel_rfl) (by assumption) ?_ ?_
    · intro w hSw
      (try dsimp only at hSw)
      go_simp
    simp only [Act.put, List.setIfInBounds_toArray, List.set_cons_zero, List.set_cons_succ]
    refine handRead 4 (some 18) (.agg #[.int .i64 y.id, .int .i64 y.rank, .bool y.up]) rfl rfl (by kernel_rfl) (by kernel_rfl) (by kernel_rfl) (fun _ _ _ h => h) (by kernel_rfl) (by assumption) ?_ ?_
    · intro w hSw
      (try dsimp only at hSw)
      go_simp
    simp only [Act.put, List.setIfInBounds_toArray, List.set_cons_zero, List.set_cons_succ]
    refine handCall 2 (some 16) 55 #[.int .i64 g, .agg #[.int .i64 x.id, .int .i64 x.rank, .bool x.up]] (by kernel_rfl) rfl rfl (by kernel_rfl) (by simp [go_sem]) ((CX.out _).mono ?_)
    rintro e waSA5 ⟨rfl, hbaSA5⟩
    have SBSA5 := SA5.drew.step hbaSA5
    clear hHeld
    refine ⟨_, rfl, (by exact ⟨(HB.out _ SBSA5).1.cells, (HB.out _ SBSA5).2.cells⟩), fun hHeld => ?_⟩
    simp only [Act.put, List.setIfInBounds_toArray, List.set_cons_zero, List.set_cons_succ]
    refine handCall 5 (some 19) 55 #[.int .i64 g, .agg #[.int .i64 y.id, .int .i64 y.rank, .bool y.up]] (by kernel_rfl) rfl rfl (by kernel_rfl) (by simp [go_sem]) ((CY.out _).mono ?_)
    rintro e wbSA5 ⟨rfl, hbbSA5⟩
    have SCSA5 := SBSA5.step hbbSA5
    clear hHeld
    refine ⟨_, rfl, (by exact ⟨(HB.out _ SCSA5).1.cells, (HB.out _ SCSA5).2.cells⟩), fun hHeld => ?_⟩
    simp only [Act.put, List.setIfInBounds_toArray, List.set_cons_zero, List.set_cons_succ]
    refine handRead 6 (some 20) (.bool (decide (sy < sx))) rfl rfl (by kernel_rfl) (by kernel_rfl) (by kernel_rfl) (fun _ _ _ h => h) (by kernel_rfl) (by assumption) ?_ ?_
    · intro w hSw
      (try dsimp only at hSw)
      go_simp
    simp only [Act.put, List.setIfInBounds_toArray, List.set_cons_zero, List.set_cons_succ]
    refine handRead 7 (some 6) (.bool (decide (sy < sx))) rfl rfl (by kernel_rfl) (by kernel_rfl) (by kernel_rfl) (fun _ _ _ h => h) (by kernel_rfl) (by assumption) ?_ ?_
    · intro w hSw
      (try dsimp only at hSw)
      go_simp
    simp only [Act.put, List.setIfInBounds_toArray, List.set_cons_zero, List.set_cons_succ]
    refine wpAnyH_done (by kernel_rfl) ?_ _
    have HF : Hid (Below W.heap.size W wbSA5) := (HF0.out.tran SCSA5).1
    clear SCSA5 SBSA5 SA5 hbaSA5 hbbSA5 hHeld HB HB1
    go_wp2
    go_ret
    exact ⟨ret_bool HE.out, HF.out⟩

set_option maxRecDepth 100000 in
set_option maxHeartbeats 4000000 in
theorem bestPref_any (W : World) (v : Value) (l : List BrD) (g : Int) (h : ReadsBr W v l) (hl : l.length ≤ 1048576) (hgood : goodBrs l = true) (hgr : 0 ≤ g ∧ g ≤ 40) :
    Calls Try.prog 31 #[v, .func (.func 52) #[.int .i64 g] #[]] W fun e W' => e = .returned (.int .i64 (bestId (bestOf (prefB g) l))) ∧ Below W.heap.size W W' := by
  obtain ⟨a1, cap1, rfl, hc1⟩ := h
  by_cases hz : l = []
  · subst hz
    simp only [List.length_nil]
    clear hc1
    go_enter Try.func31, Try.ntmps31
    go_wp2
    refine wp_loop_rounds 1 ?_
    rw [rounds_succ]
    go_wp2
    go_ret
    exact ⟨rfl, (Below.refl _ W).alloc (Nat.le_refl _) _⟩
  · obtain ⟨g1, o1, rfl, hg1, hc1⟩ := hc1.resolve_left hz
    have HC1 : Hid (∀ W1, Below W.heap.size W W1 → ∀ j (hj : j < l.length), BrAt W1 g1 (o1 + j * 3) l[j]) := fun W1 hS j hj => (hc1 j hj).below hg1 hS
    have HX0 : Hid (BestAt W (W.alloc (.cells #[.int .i64 0, .int .i64 0, .bool false] 35)) none) := ⟨(Below.refl _ W).alloc (Nat.le_refl _) _, Bx3.new _ _ _ _ _⟩
    clear hc1 hg1 hz
    go_enter Try.func31, Try.ntmps31
    go_wp2
    generalize hw : W.alloc (.cells #[.int .i64 0, .int .i64 0, .bool false] 35) = w0 at *
    clear hw
    go_loopw [10] (fun i wr => ∃ k : Nat, k ≤ l.length ∧ i = .int .i64 k ∧ Hid (BestAt W wr (bestOf (prefB g) (l.take k)))) (fun i _ => l.length - (intOf i).toNat)
    case atStart => exact ⟨0, Nat.zero_le _, rfl, HX0.out⟩
    case round =>
      clear HX0
      obtain ⟨k, hk, rfl, HK⟩ := hrel
      by_cases hlt : k < l.length
      · have hlt' : (k : Int) < (l.length : Int) := by omega
        have HN : Hid (bestOf (prefB g) (l.take (k + 1)) = bestStep (prefB g) (bestOf (prefB g) (l.take k)) l[k]) := best_next _ l k hlt
        obtain ⟨q0, q1, q2⟩ := HC1.out wr HK.out.below k hlt
        have HGD : Hid (goodB l[k] = true ∧ ∀ y, bestOf (prefB g) (l.take k) = some y → goodB y = true) := ⟨good_at l hgood k hlt, fun y hy => by
          have := (bestOf_mem (prefB g) (l.take k) _ rfl y hy).1
          obtain ⟨j, hj, rfl⟩ := List.getElem_of_mem this
          rw [List.getElem_take]
          exact good_at l hgood j (by simp at hj; omega)⟩
        generalize l[k] = x at *
        generalize bestOf (prefB g) (l.take k) = o at *
        cases hu : x.up with
        | false =>
          have HN1 : Hid (bestOf (prefB g) (l.take (k + 1)) = o) := by show _ = _; rw [HN.out]; unfold bestStep; rw [hu]; rfl
          have HB1 : Hid (BestAt W (wr.alloc (.cells #[.int .i64 x.id, .int .i64 x.rank, .bool false] 35)) o) := HK.out.step ((Below.refl _ wr).alloc (Nat.le_refl _) _)
          rw [hu] at q2
          clear HK hu HN
          go_wp2
          go_roundw
          case rel => exact ⟨k + 1, by omega, by go_num, by rw [HN1.out]; exact HB1.out⟩
          case measure => simp [intOf]; omega
        | true =>
          rw [hu] at q2
          cases o with
          | none =>
            have HN1 : Hid (bestOf (prefB g) (l.take (k + 1)) = some x) := by show _ = _; rw [HN.out]; unfold bestStep; rw [hu]; rfl
            obtain ⟨y0, y1, y2, y3, yf⟩ := HK.out.2
            have hne : ¬ wr.heap.size = W.heap.size := by omega
            have HB1 : Hid (BestAt W ((((wr.setCell ⟨W.heap.size, 0, none⟩ (.int .i64 x.id)).setCell ⟨W.heap.size, 1, none⟩ (.int .i64 x.rank)).setCell ⟨W.heap.size, 2, none⟩ (.bool true)).alloc (.cells #[.int .i64 x.id, .int .i64 x.rank, .bool true] 35)) (some x)) := (HK.out.put x hu).step ((Below.refl _ _).alloc (Nat.le_refl _) _)
            clear HK hu HN
            go_wp2
            go_roundw
            case rel => exact ⟨k + 1, by omega, by go_num, by rw [HN1.out]; exact HB1.out⟩
            case measure => simp [intOf]; omega
          | some y =>
            obtain ⟨huy, hby⟩ := HK.out.2
            have HXA : Hid (Bx3 (wr.alloc (.cells #[.int .i64 x.id, .int .i64 x.rank, .bool true] 35)) wr.heap.size (.int .i64 x.id) (.int .i64 x.rank) (.bool true)) := Bx3.new _ _ _ _ _
            have HBA : Hid (BestAt W (wr.alloc (.cells #[.int .i64 x.id, .int .i64 x.rank, .bool true] 35)) (some y)) := HK.out.step ((Below.refl _ wr).alloc (Nat.le_refl _) _)
            have HLW : Hid (W.heap.size < wr.heap.size) := hby.lt
            obtain ⟨y0, y1, y2, y3, yf⟩ := hby
            have CB : Hid (∀ w, Calls Try.prog 52 #[.int .i64 g, .agg #[.int .i64 x.id, .int .i64 x.rank, .bool true], .agg #[.int .i64 y.id, .int .i64 y.rank, .bool true]] w fun e w' => e = .returned (.bool ((prefB g) x y)) ∧ Below w.heap.size w w') := fun w => by
              have := prefers_any w g x y HGD.out.1 (HGD.out.2 y rfl) hgr
              rw [hu, huy] at this
              exact this
            have HU : Hid (x.up = true) := hu
            clear HK huy hu
            cases hfb : (prefB g) x y with
            | false =>
              have HN1 : Hid (bestOf (prefB g) (l.take (k + 1)) = some y) := by show _ = _; rw [HN.out]; unfold bestStep; rw [HU.out]; simp only [if_true, hfb]; rfl
              rw [hfb] at CB
              clear HN hfb
              go_wp2_with fail
              refine (CB.out _).mono ?_
              rintro e w1 ⟨rfl, hb1⟩
              have HB1 : Hid (BestAt W w1 (some y)) := HBA.out.step hb1
              clear hb1 y0 y1 y2 y3 yf
              go_wp2
              go_roundw
              case rel => exact ⟨k + 1, by omega, by go_num, by rw [HN1.out]; exact HB1.out⟩
              case measure => simp [intOf]; omega
            | true =>
              have HN1 : Hid (bestOf (prefB g) (l.take (k + 1)) = some x) := by show _ = _; rw [HN.out]; unfold bestStep; rw [HU.out]; simp only [if_true, hfb]
              rw [hfb] at CB
              clear HN hfb
              go_wp2_with fail
              refine (CB.out _).mono ?_
              rintro e w1 ⟨rfl, hb1⟩
              have HB1 : Hid (BestAt W (((w1.setCell ⟨W.heap.size, 0, none⟩ (.int .i64 x.id)).setCell ⟨W.heap.size, 1, none⟩ (.int .i64 x.rank)).setCell ⟨W.heap.size, 2, none⟩ (.bool true)) (some x)) := (HBA.out.step hb1).put x HU.out
              clear y0 y1 y2 y3 yf
              obtain ⟨y0, y1, y2, y3, yf⟩ := (HBA.out.step hb1).2.2
              obtain ⟨z0, z1, z2, z3, -⟩ := HXA.out.below hb1
              have hne : ¬ wr.heap.size = W.heap.size := by have := HLW.out; omega
              clear hb1
              go_wp2
              go_roundw
              case rel => exact ⟨k + 1, by omega, by go_num, by rw [HN1.out]; exact HB1.out⟩
              case measure => simp [intOf]; omega
      · have hlt' : ¬ (k : Int) < (l.length : Int) := by omega
        have en : l.take k = l := List.take_of_length_le (by omega)
        rw [en] at HK
        clear en
        have HF : Hid (Below W.heap.size W wr) := HK.out.below
        obtain ⟨oo, hoo⟩ : ∃ oo, oo = bestOf (prefB g) l := ⟨_, rfl⟩
        rw [← hoo] at HK
        have HOO : Hid (oo = bestOf (prefB g) l) := hoo
        clear hoo
        cases oo with
        | none =>
          obtain ⟨y0, y1, y2, y3, -⟩ := HK.out.2
          clear HK
          go_wp2
          go_ret
          exact ⟨retI (by rw [← HOO.out]; rfl), HF.out⟩
        | some y =>
          obtain ⟨-, y0, y1, y2, y3, -⟩ := HK.out.2
          clear HK
          go_wp2
          go_ret
          exact ⟨retI (by rw [← HOO.out]; rfl), HF.out⟩
end Go.Proofs.Ytiimiiblhafajab
