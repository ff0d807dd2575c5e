/-
  'GoodHaves' of the program.
-/
import Derived.Test.YtkpdiojomgiocacLsMath
import Derived.Test.YtkpdiojomgiocacSince0
import Derived.Test.YtkpdiojomgiocacHand
namespace Go.Proofs.Ytkpdiojomgiocac
open Go.RowKit
set_option linter.unusedVariables false

theorem stepHv_zero (l : List HvD) (h : 0 < l.length) : stepHv l 0 = okHv l[0] := by
  unfold stepHv
  rw [getHv l 0 h]
  simp
theorem stepHv_succ (l : List HvD) (j : Nat) (h : j + 1 < l.length) : stepHv l (j + 1) = (okHv l[j + 1] && decide (l[j].From < l[j + 1].From)) := by
  unfold stepHv
  rw [getHv l (j + 1) h, Nat.add_sub_cancel, getHv l j (by omega)]
  simp
theorem okHv_four (x : HvD) : okHv x = (decide (1 ≤ x.From) && decide (x.From ≤ 1000) && decide (1 ≤ x.Seq) && decide (x.Seq ≤ 1000)) := by
  unfold okHv
  rw [Bool.eq_iff_iff]
  simp
  omega
theorem okHv_false {x : HvD} (h : okHv x = false) : decide (1 ≤ x.From ∧ x.From ≤ 1000) = false ∨ decide (1 ≤ x.From ∧ x.From ≤ 1000) = true ∧ decide (1 ≤ x.Seq ∧ x.Seq ≤ 1000) = false := by
  unfold okHv at h
  have := of_decide_eq_false h
  by_cases d : 1 ≤ x.From ∧ x.From ≤ 1000
  · exact .inr ⟨decide_eq_true d, decide_eq_false fun e => this ⟨d, e⟩⟩
  · exact .inl (decide_eq_false d)
theorem okHv_true {x : HvD} (h : okHv x = true) : decide (1 ≤ x.From ∧ x.From ≤ 1000) = true ∧ decide (1 ≤ x.Seq ∧ x.Seq ≤ 1000) = true := by
  unfold okHv at h
  have := of_decide_eq_true h
  exact ⟨decide_eq_true this.1, decide_eq_true this.2⟩
theorem hvNew (W : World) (x : HvD) : ∀ w', Since (W.alloc (.cells #[.int .i64 x.From, .int .i64 x.Seq] 41)).heap.size (W.alloc (.cells #[.int .i64 x.From, .int .i64 x.Seq] 41)) w' → w'.cell? ⟨W.heap.size, 0, none⟩ = some (.int .i64 x.From) ∧ w'.cell? ⟨W.heap.size, 1, none⟩ = some (.int .i64 x.Seq) := fun w' hs =>
  ⟨(hs.1.cell (p := ⟨W.heap.size, 0, none⟩) (by simp)).trans (by rw [World.cell?_alloc_at _ _ _ _ rfl]; rfl), (hs.1.cell (p := ⟨W.heap.size, 1, none⟩) (by simp)).trans (by rw [World.cell?_alloc_at _ _ _ _ rfl]; rfl)⟩

set_option maxHeartbeats 1000000 in
theorem isGoodHv_any (W : World) (x : HvD) : Calls Try.prog 41 #[.agg #[.int .i64 x.From, .int .i64 x.Seq]] W fun e W' => e = .returned (.bool (okHv x)) ∧ Below W.heap.size W W' := by
  have HB : Hid (Below W.heap.size W (W.alloc (.cells #[.int .i64 x.From, .int .i64 x.Seq] 41))) := (Below.refl _ W).alloc (Nat.le_refl _) _
  rw [okHv_four]
  cases d1 : decide (1 ≤ x.From) <;> cases d2 : decide (x.From ≤ 1000) <;> cases d3 : decide (1 ≤ x.Seq) <;> cases d4 : decide (x.Seq ≤ 1000) <;>
    (go_enter Try.func41, Try.ntmps41
     go_wp2
     go_ret
     exact ⟨rfl, HB.out⟩)

set_option maxRecDepth 100000 in
set_option maxHeartbeats 4000000 in
theorem implGoodHv_any (W : World) (v : Value) (l : List HvD) (h : ReadsHv W v l) (hl : l.length ≤ 2097152) :
    Calls Try.prog 22 #[v] W fun e W' => e = .returned (.bool (goodHv l)) ∧ Below W.heap.size W W' := by
  obtain ⟨a1, cap1, rfl, hc1⟩ := h
  by_cases h10 : l.length ≤ 30
  · have d2 : ¬ (30 : Int) < (l.length : Int) := by omega
    by_cases h1 : l = []
    · subst h1
      simp only [List.length_nil] at *
      clear hc1
      go_enter Try.func22, Try.ntmps22
      go_wp2
      refine wp_loop_rounds 1 ?_
      rw [rounds_succ]
      go_wp2
      go_ret
      exact ⟨rfl, Below.refl _ _⟩
    · obtain ⟨g1, o1, rfl, hg1, hc1⟩ := hc1.resolve_left h1
      have HC1 : Hid (∀ W1, Since W.heap.size W W1 → ∀ j (hj : j < l.length), HvAt W1 g1 (o1 + j * 2) l[j]) := fun W1 hS j hj => (hc1 j hj).below hg1 hS.1
      have HS0 : Hid (Since W.heap.size W W) := Since.start W
      clear hc1 hg1 h1
      go_enter Try.func22, Try.ntmps22
      go_wp2
      go_loopw [10] (fun i wr => ∃ k : Nat, k ≤ l.length ∧ i = .int .i64 k ∧ Hid ((∀ j, j < k → stepHv l j = true) ∧ Since W.heap.size W wr)) (fun i _ => l.length - (intOf i).toNat)
      case atStart => exact ⟨0, Nat.zero_le _, rfl, fun j hj => absurd hj (Nat.not_lt_zero _), HS0.out⟩
      case round =>
        obtain ⟨k, hk, rfl, HK⟩ := hrel
        by_cases hlt : k < l.length
        · obtain ⟨hA, hS⟩ := HK.out
          have hlt' : (k : Int) < (l.length : Int) := by omega
          obtain ⟨q0, q1⟩ := HC1.out wr hS k hlt
          have HOK : Hid (stepHv l k = true → ∀ j, j < k + 1 → stepHv l j = true) := fun ho j hj => by
            by_cases e : j = k
            · rw [e]; exact ho
            · exact hA j (by omega)
          have HNO : Hid (stepHv l k = false → goodHv l = false) := goodHv_no l k hlt
          have HPR : Hid (k = 0 ∨ ∃ j y, k = j + 1 ∧ (∀ W1, Since W.heap.size W W1 → W1.cell? ⟨g1, o1 + j * 2, none⟩ = some (.int .i64 y)) ∧ stepHv l k = (okHv l[k] && decide (y < l[k].From))) := by
            cases k with
            | zero => exact .inl rfl
            | succ j => exact .inr ⟨j, l[j].From, rfl, fun W1 hS1 => (HC1.out W1 hS1 j (by omega)).1, stepHv_succ l j hlt⟩
          have HP0 : Hid (k = 0 → stepHv l k = okHv l[k]) := fun e => by subst e; exact stepHv_zero l hlt
          have HGB : Hid (okHv l[k] = false → stepHv l k = false) := fun hg => by
            rcases HPR.out with e | ⟨j, y, e, -, ho⟩
            · rw [HP0.out e, hg]
            · rw [ho, hg]; rfl
          generalize l[k] = x at *
          generalize stepHv l k = oo at *
          have HS1 : Hid (Since W.heap.size W (wr.alloc (.cells #[.int .i64 x.From, .int .i64 x.Seq] 41))) := hS.step ((Below.refl _ wr).alloc (Nat.le_refl _) _)
          have HX : Hid (∀ w', Since (wr.alloc (.cells #[.int .i64 x.From, .int .i64 x.Seq] 41)).heap.size (wr.alloc (.cells #[.int .i64 x.From, .int .i64 x.Seq] 41)) w' → w'.cell? ⟨wr.heap.size, 0, none⟩ = some (.int .i64 x.From) ∧ w'.cell? ⟨wr.heap.size, 1, none⟩ = some (.int .i64 x.Seq)) := hvNew wr x
          clear hA hS HK HC1
          cases hgd : okHv x with
          | false =>
            have HF : Hid (goodHv l = false) := HNO.out (HGB.out hgd)
            have CG : Hid (∀ w', Calls Try.prog 41 #[.agg #[.int .i64 x.From, .int .i64 x.Seq]] w' fun e w2 => e = .returned (.bool false) ∧ Below w'.heap.size w' w2) := fun w' => by have := isGoodHv_any w' x; rw [hgd] at this; exact this
            clear hgd HOK HNO HPR HP0 HGB
            go_wp2
            have SA0 := Since.start (wr.alloc (.cells #[.int .i64 x.From, .int .i64 x.Seq] 41))
            refine wp_region_held_drew (S := (fun w' => (w'.cell? ⟨wr.heap.size, 0, none⟩ = some (.int .i64 x.From) ∧ w'.cell? ⟨wr.heap.size, 1, none⟩ = some (.int .i64 x.Seq)))) (by kernel_rfl) ?_ (fun hHeld => ?_)
            · exact HX.out _ SA0.drew
            refine handRead 0 (some 15) (.agg #[.int .i64 x.From, .int .i64 x.Seq]) rfl rfl (by kernel_rfl) (by kernel_rfl) (by kernel_rfl) (fun _ _ _ h => h) (by kernel_rfl) (by assumption) ?_ ?_
            · intro w hSw
              (try dsimp only at hSw)
              go_simp
            simp only [Act.put, List.setIfInBounds_toArray, List.set_cons_zero, List.set_cons_succ]
            refine handCall 1 (some 16) 41 #[.agg #[.int .i64 x.From, .int .i64 x.Seq]] (by kernel_rfl) rfl rfl (by kernel_rfl) (by simp [go_sem]) ((CG.out _).mono ?_)
            rintro e w1 ⟨rfl, hb1⟩
            have SA1 := SA0.drew.step hb1
            clear hHeld
            refine ⟨_, rfl, (by exact HX.out _ SA1), fun hHeld => ?_⟩
            simp only [Act.put, List.setIfInBounds_toArray, List.set_cons_zero, List.set_cons_succ]
            refine handRead 2 (some 17) (.bool true) rfl rfl (by kernel_rfl) (by kernel_rfl) (by kernel_rfl) (fun _ _ _ h => h) (by kernel_rfl) (by assumption) ?_ ?_
            · intro w hSw
              (try dsimp only at hSw)
              go_simp
            simp only [Act.put, List.setIfInBounds_toArray, List.set_cons_zero, List.set_cons_succ]
            refine handRead 3 (some 18) (.bool true) rfl rfl (by kernel_rfl) (by kernel_rfl) (by kernel_rfl) (fun _ _ _ h => h) (by kernel_rfl) (by assumption) ?_ ?_
            · intro w hSw
              (try dsimp only at hSw)
              go_simp
            simp only [Act.put, List.setIfInBounds_toArray, List.set_cons_zero, List.set_cons_succ]
            refine handSkip 4 (some 19) rfl rfl (by kernel_rfl) (by kernel_rfl) (by kernel_rfl) (fun _ _ _ h => h) (by kernel_rfl) (by assumption) ?_
            simp only [Act.put, List.setIfInBounds_toArray, List.set_cons_zero, List.set_cons_succ]
            refine handSkip 5 (some 20) rfl rfl (by kernel_rfl) (by kernel_rfl) (by kernel_rfl) (fun _ _ _ h => h) (by kernel_rfl) (by assumption) ?_
            simp only [Act.put, List.setIfInBounds_toArray, List.set_cons_zero, List.set_cons_succ]
            refine handSkip 6 (some 21) rfl rfl (by kernel_rfl) (by kernel_rfl) (by kernel_rfl) (fun _ _ _ h => h) (by kernel_rfl) (by assumption) ?_
            simp only [Act.put, List.setIfInBounds_toArray, List.set_cons_zero, List.set_cons_succ]
            refine handSkip 7 (some 22) rfl rfl (by kernel_rfl) (by kernel_rfl) (by kernel_rfl) (fun _ _ _ h => h) (by kernel_rfl) (by assumption) ?_
            simp only [Act.put, List.setIfInBounds_toArray, List.set_cons_zero, List.set_cons_succ]
            refine handSkip 8 (some 23) rfl rfl (by kernel_rfl) (by kernel_rfl) (by kernel_rfl) (fun _ _ _ h => h) (by kernel_rfl) (by assumption) ?_
            simp only [Act.put, List.setIfInBounds_toArray, List.set_cons_zero, List.set_cons_succ]
            refine handSkip 9 (some 24) rfl rfl (by kernel_rfl) (by kernel_rfl) (by kernel_rfl) (fun _ _ _ h => h) (by kernel_rfl) (by assumption) ?_
            simp only [Act.put, List.setIfInBounds_toArray, List.set_cons_zero, List.set_cons_succ]
            refine handSkip 10 (some 25) rfl rfl (by kernel_rfl) (by kernel_rfl) (by kernel_rfl) (fun _ _ _ h => h) (by kernel_rfl) (by assumption) ?_
            simp only [Act.put, List.setIfInBounds_toArray, List.set_cons_zero, List.set_cons_succ]
            refine handSkip 11 (some 26) rfl rfl (by kernel_rfl) (by kernel_rfl) (by kernel_rfl) (fun _ _ _ h => h) (by kernel_rfl) (by assumption) ?_
            simp only [Act.put, List.setIfInBounds_toArray, List.set_cons_zero, List.set_cons_succ]
            refine handSkip 12 (some 27) rfl rfl (by kernel_rfl) (by kernel_rfl) (by kernel_rfl) (fun _ _ _ h => h) (by kernel_rfl) (by assumption) ?_
            simp only [Act.put, List.setIfInBounds_toArray, List.set_cons_zero, List.set_cons_succ]
            refine handSkip 13 (some 28) rfl rfl (by kernel_rfl) (by kernel_rfl) (by kernel_rfl) (fun _ _ _ h => h) (by kernel_rfl) (by assumption) ?_
            simp only [Act.put, List.setIfInBounds_toArray, List.set_cons_zero, List.set_cons_succ]
            refine handSkip 14 (some 29) rfl rfl (by kernel_rfl) (by kernel_rfl) (by kernel_rfl) (fun _ _ _ h => h) (by kernel_rfl) (by assumption) ?_
            simp only [Act.put, List.setIfInBounds_toArray, List.set_cons_zero, List.set_cons_succ]
            refine handSkip 15 (some 30) rfl rfl (by kernel_rfl) (by kernel_rfl) (by kernel_rfl) (fun _ _ _ h => h) (by kernel_rfl) (by assumption) ?_
            simp only [Act.put, List.setIfInBounds_toArray, List.set_cons_zero, List.set_cons_succ]
            refine handSkip 16 (some 31) rfl rfl (by kernel_rfl) (by kernel_rfl) (by kernel_rfl) (fun _ _ _ h => h) (by kernel_rfl) (by assumption) ?_
            simp only [Act.put, List.setIfInBounds_toArray, List.set_cons_zero, List.set_cons_succ]
            refine handRead 17 (some 32) (.bool true) rfl rfl (by kernel_rfl) (by kernel_rfl) (by kernel_rfl) (fun _ _ _ h => h) (by kernel_rfl) (by assumption) ?_ ?_
            · intro w hSw
              (try dsimp only at hSw)
              go_simp
            simp only [Act.put, List.setIfInBounds_toArray, List.set_cons_zero, List.set_cons_succ]
            refine wpAnyH_done (by kernel_rfl) ?_ _
            go_wp2
            go_ret
            exact ⟨ret_bool HF.out.symm, (HS1.out.tran SA1).1⟩
          | true =>
            have CG : Hid (∀ w', Calls Try.prog 41 #[.agg #[.int .i64 x.From, .int .i64 x.Seq]] w' fun e w2 => e = .returned (.bool true) ∧ Below w'.heap.size w' w2) := fun w' => by have := isGoodHv_any w' x; rw [hgd] at this; exact this
            rw [hgd] at HPR HP0
            clear hgd HGB
            rcases HPR.out with e0 | ⟨j, y, ej, hy, ho⟩
            · have HA1 : Hid (∀ j, j < k + 1 → stepHv l j = true) := HOK.out (HP0.out e0)
              have HE0 : Hid (k = 0) := e0
              clear HOK HNO HPR HP0 e0
              go_wp2
              have SA0 := Since.start (wr.alloc (.cells #[.int .i64 x.From, .int .i64 x.Seq] 41))
              have e0 : k = 0 := HE0.out
              refine wp_region_held_drew (S := (fun w' => (w'.cell? ⟨wr.heap.size, 0, none⟩ = some (.int .i64 x.From) ∧ w'.cell? ⟨wr.heap.size, 1, none⟩ = some (.int .i64 x.Seq)))) (by kernel_rfl) ?_ (fun hHeld => ?_)
              · exact HX.out _ SA0.drew
              refine handRead 0 (some 15) (.agg #[.int .i64 x.From, .int .i64 x.Seq]) rfl rfl (by kernel_rfl) (by kernel_rfl) (by kernel_rfl) (fun _ _ _ h => h) (by kernel_rfl) (by assumption) ?_ ?_
              · intro w hSw
                (try dsimp only at hSw)
                go_simp
              simp only [Act.put, List.setIfInBounds_toArray, List.set_cons_zero, List.set_cons_succ]
              refine handCall 1 (some 16) 41 #[.agg #[.int .i64 x.From, .int .i64 x.Seq]] (by kernel_rfl) rfl rfl (by kernel_rfl) (by simp [go_sem]) ((CG.out _).mono ?_)
              rintro e w1 ⟨rfl, hb1⟩
              have SA1 := SA0.drew.step hb1
              clear hHeld
              refine ⟨_, rfl, (by exact HX.out _ SA1), fun hHeld => ?_⟩
              simp only [Act.put, List.setIfInBounds_toArray, List.set_cons_zero, List.set_cons_succ]
              refine handRead 2 (some 17) (.bool false) rfl rfl (by kernel_rfl) (by kernel_rfl) (by kernel_rfl) (fun _ _ _ h => h) (by kernel_rfl) (by assumption) ?_ ?_
              · intro w hSw
                (try dsimp only at hSw)
                go_simp
              simp only [Act.put, List.setIfInBounds_toArray, List.set_cons_zero, List.set_cons_succ]
              refine handRead 3 (some 18) (.bool false) rfl rfl (by kernel_rfl) (by kernel_rfl) (by kernel_rfl) (fun _ _ _ h => h) (by kernel_rfl) (by assumption) ?_ ?_
              · intro w hSw
                (try dsimp only at hSw)
                go_simp
              simp only [Act.put, List.setIfInBounds_toArray, List.set_cons_zero, List.set_cons_succ]
              refine handRead 4 (some 19) (.int .i64 k) rfl rfl (by kernel_rfl) (by kernel_rfl) (by kernel_rfl) (fun _ _ _ h => h) (by kernel_rfl) (by assumption) ?_ ?_
              · intro w hSw
                (try dsimp only at hSw)
                go_simp
              simp only [Act.put, List.setIfInBounds_toArray, List.set_cons_zero, List.set_cons_succ]
              refine handRead 5 (some 20) (.bool false) rfl rfl (by kernel_rfl) (by kernel_rfl) (by kernel_rfl) (fun _ _ _ h => h) (by kernel_rfl) (by assumption) ?_ ?_
              · intro w hSw
                (try dsimp only at hSw)
                go_simp
              simp only [Act.put, List.setIfInBounds_toArray, List.set_cons_zero, List.set_cons_succ]
              refine handRead 6 (some 21) (.bool false) rfl rfl (by kernel_rfl) (by kernel_rfl) (by kernel_rfl) (fun _ _ _ h => h) (by kernel_rfl) (by assumption) ?_ ?_
              · intro w hSw
                (try dsimp only at hSw)
                go_simp
              simp only [Act.put, List.setIfInBounds_toArray, List.set_cons_zero, List.set_cons_succ]
              refine handSkip 7 (some 22) rfl rfl (by kernel_rfl) (by kernel_rfl) (by kernel_rfl) (fun _ _ _ h => h) (by kernel_rfl) (by assumption) ?_
              simp only [Act.put, List.setIfInBounds_toArray, List.set_cons_zero, List.set_cons_succ]
              refine handSkip 8 (some 23) rfl rfl (by kernel_rfl) (by kernel_rfl) (by kernel_rfl) (fun _ _ _ h => h) (by kernel_rfl) (by assumption) ?_
              simp only [Act.put, List.setIfInBounds_toArray, List.set_cons_zero, List.set_cons_succ]
              refine handSkip 9 (some 24) rfl rfl (by kernel_rfl) (by kernel_rfl) (by kernel_rfl) (fun _ _ _ h => h) (by kernel_rfl) (by assumption) ?_
              simp only [Act.put, List.setIfInBounds_toArray, List.set_cons_zero, List.set_cons_succ]
              refine handSkip 10 (some 25) rfl rfl (by kernel_rfl) (by kernel_rfl) (by kernel_rfl) (fun _ _ _ h => h) (by kernel_rfl) (by assumption) ?_
              simp only [Act.put, List.setIfInBounds_toArray, List.set_cons_zero, List.set_cons_succ]
              refine handSkip 11 (some 26) rfl rfl (by kernel_rfl) (by kernel_rfl) (by kernel_rfl) (fun _ _ _ h => h) (by kernel_rfl) (by assumption) ?_
              simp only [Act.put, List.setIfInBounds_toArray, List.set_cons_zero, List.set_cons_succ]
              refine handSkip 12 (some 27) rfl rfl (by kernel_rfl) (by kernel_rfl) (by kernel_rfl) (fun _ _ _ h => h) (by kernel_rfl) (by assumption) ?_
              simp only [Act.put, List.setIfInBounds_toArray, List.set_cons_zero, List.set_cons_succ]
              refine handSkip 13 (some 28) rfl rfl (by kernel_rfl) (by kernel_rfl) (by kernel_rfl) (fun _ _ _ h => h) (by kernel_rfl) (by assumption) ?_
              simp only [Act.put, List.setIfInBounds_toArray, List.set_cons_zero, List.set_cons_succ]
              refine handSkip 14 (some 29) rfl rfl (by kernel_rfl) (by kernel_rfl) (by kernel_rfl) (fun _ _ _ h => h) (by kernel_rfl) (by assumption) ?_
              simp only [Act.put, List.setIfInBounds_toArray, List.set_cons_zero, List.set_cons_succ]
              refine handSkip 15 (some 30) rfl rfl (by kernel_rfl) (by kernel_rfl) (by kernel_rfl) (fun _ _ _ h => h) (by kernel_rfl) (by assumption) ?_
              simp only [Act.put, List.setIfInBounds_toArray, List.set_cons_zero, List.set_cons_succ]
              refine handRead 16 (some 31) (.bool false) rfl rfl (by kernel_rfl) (by kernel_rfl) (by kernel_rfl) (fun _ _ _ h => h) (by kernel_rfl) (by assumption) ?_ ?_
              · intro w hSw
                (try dsimp only at hSw)
                go_simp
              simp only [Act.put, List.setIfInBounds_toArray, List.set_cons_zero, List.set_cons_succ]
              refine handRead 17 (some 32) (.bool false) rfl rfl (by kernel_rfl) (by kernel_rfl) (by kernel_rfl) (fun _ _ _ h => h) (by kernel_rfl) (by assumption) ?_ ?_
              · intro w hSw
                (try dsimp only at hSw)
                go_simp
              simp only [Act.put, List.setIfInBounds_toArray, List.set_cons_zero, List.set_cons_succ]
              refine wpAnyH_done (by kernel_rfl) ?_ _
              clear e0
              go_wp2
              go_roundw
              case rel => exact ⟨k + 1, by omega, by go_num, HA1.out, HS1.out.tran SA1⟩
              case measure => simp [intOf]; omega
            · have HY : Hid (∀ w', Since (wr.alloc (.cells #[.int .i64 x.From, .int .i64 x.Seq] 41)).heap.size (wr.alloc (.cells #[.int .i64 x.From, .int .i64 x.Seq] 41)) w' → w'.cell? ⟨g1, o1 + j * 2, none⟩ = some (.int .i64 y)) := fun w' hs => hy w' (HS1.out.tran hs)
              have hjl : (j : Int) < (l.length : Int) := by omega
              have hw1 : IntKind.i64.wrap ((k : Int) - 1) = (j : Int) := by rw [IntKind.wrap_i64]; omega
              have hk0 : 0 < k := by omega
              rw [Bool.true_and] at ho
              clear HPR HP0 hy
              by_cases hyx : y < x.From
              · have HA1 : Hid (∀ j, j < k + 1 → stepHv l j = true) := HOK.out (by rw [ho]; exact decide_eq_true hyx)
                have hge : decide (x.From ≤ y) = false := by simp; omega
                clear HOK HNO ho ej hyx
                go_wp2
                have SA0 := Since.start (wr.alloc (.cells #[.int .i64 x.From, .int .i64 x.Seq] 41))
                refine wp_region_held_drew (S := (fun w' => (w'.cell? ⟨wr.heap.size, 0, none⟩ = some (.int .i64 x.From) ∧ w'.cell? ⟨wr.heap.size, 1, none⟩ = some (.int .i64 x.Seq)) ∧ w'.cell? ⟨g1, o1 + j * 2, none⟩ = some (.int .i64 y))) (by kernel_rfl) ?_ (fun hHeld => ?_)
                · exact ⟨HX.out _ SA0.drew, HY.out _ SA0.drew⟩
                refine handRead 0 (some 15) (.agg #[.int .i64 x.From, .int .i64 x.Seq]) rfl rfl (by kernel_rfl) (by kernel_rfl) (by kernel_rfl) (fun _ _ _ h => h) (by kernel_rfl) (by assumption) ?_ ?_
                · intro w hSw
                  (try dsimp only at hSw)
                  go_simp
                simp only [Act.put, List.setIfInBounds_toArray, List.set_cons_zero, List.set_cons_succ]
                refine handCall 1 (some 16) 41 #[.agg #[.int .i64 x.From, .int .i64 x.Seq]] (by kernel_rfl) rfl rfl (by kernel_rfl) (by simp [go_sem]) ((CG.out _).mono ?_)
                rintro e w1 ⟨rfl, hb1⟩
                have SA1 := SA0.drew.step hb1
                clear hHeld
                refine ⟨_, rfl, (by exact ⟨HX.out _ SA1, HY.out _ SA1⟩), fun hHeld => ?_⟩
                simp only [Act.put, List.setIfInBounds_toArray, List.set_cons_zero, List.set_cons_succ]
                refine handRead 2 (some 17) (.bool false) rfl rfl (by kernel_rfl) (by kernel_rfl) (by kernel_rfl) (fun _ _ _ h => h) (by kernel_rfl) (by assumption) ?_ ?_
                · intro w hSw
                  (try dsimp only at hSw)
                  go_simp
                simp only [Act.put, List.setIfInBounds_toArray, List.set_cons_zero, List.set_cons_succ]
                refine handRead 3 (some 18) (.bool false) rfl rfl (by kernel_rfl) (by kernel_rfl) (by kernel_rfl) (fun _ _ _ h => h) (by kernel_rfl) (by assumption) ?_ ?_
                · intro w hSw
                  (try dsimp only at hSw)
                  go_simp
                simp only [Act.put, List.setIfInBounds_toArray, List.set_cons_zero, List.set_cons_succ]
                refine handRead 4 (some 19) (.int .i64 k) rfl rfl (by kernel_rfl) (by kernel_rfl) (by kernel_rfl) (fun _ _ _ h => h) (by kernel_rfl) (by assumption) ?_ ?_
                · intro w hSw
                  (try dsimp only at hSw)
                  go_simp
                simp only [Act.put, List.setIfInBounds_toArray, List.set_cons_zero, List.set_cons_succ]
                refine handRead 5 (some 20) (.bool true) rfl rfl (by kernel_rfl) (by kernel_rfl) (by kernel_rfl) (fun _ _ _ h => h) (by kernel_rfl) (by assumption) ?_ ?_
                · intro w hSw
                  (try dsimp only at hSw)
                  go_simp
                simp only [Act.put, List.setIfInBounds_toArray, List.set_cons_zero, List.set_cons_succ]
                refine handRead 6 (some 21) (.bool true) rfl rfl (by kernel_rfl) (by kernel_rfl) (by kernel_rfl) (fun _ _ _ h => h) (by kernel_rfl) (by assumption) ?_ ?_
                · intro w hSw
                  (try dsimp only at hSw)
                  go_simp
                simp only [Act.put, List.setIfInBounds_toArray, List.set_cons_zero, List.set_cons_succ]
                refine handRead 7 (some 22) (.slice (some ⟨g1, o1, none⟩) l.length cap1) rfl rfl (by kernel_rfl) (by kernel_rfl) (by kernel_rfl) (fun _ _ _ h => h) (by kernel_rfl) (by assumption) ?_ ?_
                · intro w hSw
                  (try dsimp only at hSw)
                  go_simp
                simp only [Act.put, List.setIfInBounds_toArray, List.set_cons_zero, List.set_cons_succ]
                refine handRead 8 (some 23) (.int .i64 k) rfl rfl (by kernel_rfl) (by kernel_rfl) (by kernel_rfl) (fun _ _ _ h => h) (by kernel_rfl) (by assumption) ?_ ?_
                · intro w hSw
                  (try dsimp only at hSw)
                  go_simp
                simp only [Act.put, List.setIfInBounds_toArray, List.set_cons_zero, List.set_cons_succ]
                refine handRead 9 (some 24) (.int .i64 j) rfl rfl (by kernel_rfl) (by kernel_rfl) (by kernel_rfl) (fun _ _ _ h => h) (by kernel_rfl) (by assumption) ?_ ?_
                · intro w hSw
                  (try dsimp only at hSw)
                  go_simp
                simp only [Act.put, List.setIfInBounds_toArray, List.set_cons_zero, List.set_cons_succ]
                refine handRead 10 (some 25) (.pointer (some ⟨g1, o1 + j * 2, none⟩)) rfl rfl (by kernel_rfl) (by kernel_rfl) (by kernel_rfl) (fun _ _ _ h => h) (by kernel_rfl) (by assumption) ?_ ?_
                · intro w hSw
                  (try dsimp only at hSw)
                  go_simp
                simp only [Act.put, List.setIfInBounds_toArray, List.set_cons_zero, List.set_cons_succ]
                refine handRead 11 (some 26) (.pointer (some ⟨g1, o1 + j * 2, none⟩)) rfl rfl (by kernel_rfl) (by kernel_rfl) (by kernel_rfl) (fun _ _ _ h => h) (by kernel_rfl) (by assumption) ?_ ?_
                · intro w hSw
                  (try dsimp only at hSw)
                  go_simp
                simp only [Act.put, List.setIfInBounds_toArray, List.set_cons_zero, List.set_cons_succ]
                refine handRead 12 (some 27) (.int .i64 y) rfl rfl (by kernel_rfl) (by kernel_rfl) (by kernel_rfl) (fun _ _ _ h => h) (by kernel_rfl) (by assumption) ?_ ?_
                · intro w hSw
                  (try dsimp only at hSw)
                  go_simp
                simp only [Act.put, List.setIfInBounds_toArray, List.set_cons_zero, List.set_cons_succ]
                refine handRead 13 (some 28) (.pointer (some ⟨wr.heap.size, 0, none⟩)) rfl rfl (by kernel_rfl) (by kernel_rfl) (by kernel_rfl) (fun _ _ _ h => h) (by kernel_rfl) (by assumption) ?_ ?_
                · intro w hSw
                  (try dsimp only at hSw)
                  go_simp
                simp only [Act.put, List.setIfInBounds_toArray, List.set_cons_zero, List.set_cons_succ]
                refine handRead 14 (some 29) (.int .i64 x.From) rfl rfl (by kernel_rfl) (by kernel_rfl) (by kernel_rfl) (fun _ _ _ h => h) (by kernel_rfl) (by assumption) ?_ ?_
                · intro w hSw
                  (try dsimp only at hSw)
                  go_simp
                simp only [Act.put, List.setIfInBounds_toArray, List.set_cons_zero, List.set_cons_succ]
                refine handRead 15 (some 30) (.bool false) rfl rfl (by kernel_rfl) (by kernel_rfl) (by kernel_rfl) (fun _ _ _ h => h) (by kernel_rfl) (by assumption) ?_ ?_
                · intro w hSw
                  (try dsimp only at hSw)
                  go_simp
                simp only [Act.put, List.setIfInBounds_toArray, List.set_cons_zero, List.set_cons_succ]
                refine handRead 16 (some 31) (.bool false) rfl rfl (by kernel_rfl) (by kernel_rfl) (by kernel_rfl) (fun _ _ _ h => h) (by kernel_rfl) (by assumption) ?_ ?_
                · intro w hSw
                  (try dsimp only at hSw)
                  go_simp
                simp only [Act.put, List.setIfInBounds_toArray, List.set_cons_zero, List.set_cons_succ]
                refine handRead 17 (some 32) (.bool false) rfl rfl (by kernel_rfl) (by kernel_rfl) (by kernel_rfl) (fun _ _ _ h => h) (by kernel_rfl) (by assumption) ?_ ?_
                · intro w hSw
                  (try dsimp only at hSw)
                  go_simp
                simp only [Act.put, List.setIfInBounds_toArray, List.set_cons_zero, List.set_cons_succ]
                refine wpAnyH_done (by kernel_rfl) ?_ _
                go_wp2
                go_roundw
                case rel => exact ⟨k + 1, by omega, by go_num, HA1.out, HS1.out.tran SA1⟩
                case measure => simp [intOf]; omega
              · have HF : Hid (goodHv l = false) := HNO.out (by rw [ho]; exact decide_eq_false hyx)
                have hge : decide (x.From ≤ y) = true := by simp; omega
                clear HOK HNO ho ej hyx
                go_wp2
                have SA0 := Since.start (wr.alloc (.cells #[.int .i64 x.From, .int .i64 x.Seq] 41))
                refine wp_region_held_drew (S := (fun w' => (w'.cell? ⟨wr.heap.size, 0, none⟩ = some (.int .i64 x.From) ∧ w'.cell? ⟨wr.heap.size, 1, none⟩ = some (.int .i64 x.Seq)) ∧ w'.cell? ⟨g1, o1 + j * 2, none⟩ = some (.int .i64 y))) (by kernel_rfl) ?_ (fun hHeld => ?_)
                · exact ⟨HX.out _ SA0.drew, HY.out _ SA0.drew⟩
                refine handRead 0 (some 15) (.agg #[.int .i64 x.From, .int .i64 x.Seq]) rfl rfl (by kernel_rfl) (by kernel_rfl) (by kernel_rfl) (fun _ _ _ h => h) (by kernel_rfl) (by assumption) ?_ ?_
                · intro w hSw
                  (try dsimp only at hSw)
                  go_simp
                simp only [Act.put, List.setIfInBounds_toArray, List.set_cons_zero, List.set_cons_succ]
                refine handCall 1 (some 16) 41 #[.agg #[.int .i64 x.From, .int .i64 x.Seq]] (by kernel_rfl) rfl rfl (by kernel_rfl) (by simp [go_sem]) ((CG.out _).mono ?_)
                rintro e w1 ⟨rfl, hb1⟩
                have SA1 := SA0.drew.step hb1
                clear hHeld
                refine ⟨_, rfl, (by exact ⟨HX.out _ SA1, HY.out _ SA1⟩), fun hHeld => ?_⟩
                simp only [Act.put, List.setIfInBounds_toArray, List.set_cons_zero, List.set_cons_succ]
                refine handRead 2 (some 17) (.bool false) rfl rfl (by kernel_rfl) (by kernel_rfl) (by kernel_rfl) (fun _ _ _ h => h) (by kernel_rfl) (by assumption) ?_ ?_
                · intro w hSw
                  (try dsimp only at hSw)
                  go_simp
                simp only [Act.put, List.setIfInBounds_toArray, List.set_cons_zero, List.set_cons_succ]
                refine handRead 3 (some 18) (.bool false) rfl rfl (by kernel_rfl) (by kernel_rfl) (by kernel_rfl) (fun _ _ _ h => h) (by kernel_rfl) (by assumption) ?_ ?_
                · intro w hSw
                  (try dsimp only at hSw)
                  go_simp
                simp only [Act.put, List.setIfInBounds_toArray, List.set_cons_zero, List.set_cons_succ]
                refine handRead 4 (some 19) (.int .i64 k) rfl rfl (by kernel_rfl) (by kernel_rfl) (by kernel_rfl) (fun _ _ _ h => h) (by kernel_rfl) (by assumption) ?_ ?_
                · intro w hSw
                  (try dsimp only at hSw)
                  go_simp
                simp only [Act.put, List.setIfInBounds_toArray, List.set_cons_zero, List.set_cons_succ]
                refine handRead 5 (some 20) (.bool true) rfl rfl (by kernel_rfl) (by kernel_rfl) (by kernel_rfl) (fun _ _ _ h => h) (by kernel_rfl) (by assumption) ?_ ?_
                · intro w hSw
                  (try dsimp only at hSw)
                  go_simp
                simp only [Act.put, List.setIfInBounds_toArray, List.set_cons_zero, List.set_cons_succ]
                refine handRead 6 (some 21) (.bool true) rfl rfl (by kernel_rfl) (by kernel_rfl) (by kernel_rfl) (fun _ _ _ h => h) (by kernel_rfl) (by assumption) ?_ ?_
                · intro w hSw
                  (try dsimp only at hSw)
                  go_simp
                simp only [Act.put, List.setIfInBounds_toArray, List.set_cons_zero, List.set_cons_succ]
                refine handRead 7 (some 22) (.slice (some ⟨g1, o1, none⟩) l.length cap1) rfl rfl (by kernel_rfl) (by kernel_rfl) (by kernel_rfl) (fun _ _ _ h => h) (by kernel_rfl) (by assumption) ?_ ?_
                · intro w hSw
                  (try dsimp only at hSw)
                  go_simp
                simp only [Act.put, List.setIfInBounds_toArray, List.set_cons_zero, List.set_cons_succ]
                refine handRead 8 (some 23) (.int .i64 k) rfl rfl (by kernel_rfl) (by kernel_rfl) (by kernel_rfl) (fun _ _ _ h => h) (by kernel_rfl) (by assumption) ?_ ?_
                · intro w hSw
                  (try dsimp only at hSw)
                  go_simp
                simp only [Act.put, List.setIfInBounds_toArray, List.set_cons_zero, List.set_cons_succ]
                refine handRead 9 (some 24) (.int .i64 j) rfl rfl (by kernel_rfl) (by kernel_rfl) (by kernel_rfl) (fun _ _ _ h => h) (by kernel_rfl) (by assumption) ?_ ?_
                · intro w hSw
                  (try dsimp only at hSw)
                  go_simp
                simp only [Act.put, List.setIfInBounds_toArray, List.set_cons_zero, List.set_cons_succ]
                refine handRead 10 (some 25) (.pointer (some ⟨g1, o1 + j * 2, none⟩)) rfl rfl (by kernel_rfl) (by kernel_rfl) (by kernel_rfl) (fun _ _ _ h => h) (by kernel_rfl) (by assumption) ?_ ?_
                · intro w hSw
                  (try dsimp only at hSw)
                  go_simp
                simp only [Act.put, List.setIfInBounds_toArray, List.set_cons_zero, List.set_cons_succ]
                refine handRead 11 (some 26) (.pointer (some ⟨g1, o1 + j * 2, none⟩)) rfl rfl (by kernel_rfl) (by kernel_rfl) (by kernel_rfl) (fun _ _ _ h => h) (by kernel_rfl) (by assumption) ?_ ?_
                · intro w hSw
                  (try dsimp only at hSw)
                  go_simp
                simp only [Act.put, List.setIfInBounds_toArray, List.set_cons_zero, List.set_cons_succ]
                refine handRead 12 (some 27) (.int .i64 y) rfl rfl (by kernel_rfl) (by kernel_rfl) (by kernel_rfl) (fun _ _ _ h => h) (by kernel_rfl) (by assumption) ?_ ?_
                · intro w hSw
                  (try dsimp only at hSw)
                  go_simp
                simp only [Act.put, List.setIfInBounds_toArray, List.set_cons_zero, List.set_cons_succ]
                refine handRead 13 (some 28) (.pointer (some ⟨wr.heap.size, 0, none⟩)) rfl rfl (by kernel_rfl) (by kernel_rfl) (by kernel_rfl) (fun _ _ _ h => h) (by kernel_rfl) (by assumption) ?_ ?_
                · intro w hSw
                  (try dsimp only at hSw)
                  go_simp
                simp only [Act.put, List.setIfInBounds_toArray, List.set_cons_zero, List.set_cons_succ]
                refine handRead 14 (some 29) (.int .i64 x.From) rfl rfl (by kernel_rfl) (by kernel_rfl) (by kernel_rfl) (fun _ _ _ h => h) (by kernel_rfl) (by assumption) ?_ ?_
                · intro w hSw
                  (try dsimp only at hSw)
                  go_simp
                simp only [Act.put, List.setIfInBounds_toArray, List.set_cons_zero, List.set_cons_succ]
                refine handRead 15 (some 30) (.bool true) rfl rfl (by kernel_rfl) (by kernel_rfl) (by kernel_rfl) (fun _ _ _ h => h) (by kernel_rfl) (by assumption) ?_ ?_
                · intro w hSw
                  (try dsimp only at hSw)
                  go_simp
                simp only [Act.put, List.setIfInBounds_toArray, List.set_cons_zero, List.set_cons_succ]
                refine handRead 16 (some 31) (.bool true) rfl rfl (by kernel_rfl) (by kernel_rfl) (by kernel_rfl) (fun _ _ _ h => h) (by kernel_rfl) (by assumption) ?_ ?_
                · intro w hSw
                  (try dsimp only at hSw)
                  go_simp
                simp only [Act.put, List.setIfInBounds_toArray, List.set_cons_zero, List.set_cons_succ]
                refine handRead 17 (some 32) (.bool true) rfl rfl (by kernel_rfl) (by kernel_rfl) (by kernel_rfl) (fun _ _ _ h => h) (by kernel_rfl) (by assumption) ?_ ?_
                · intro w hSw
                  (try dsimp only at hSw)
                  go_simp
                simp only [Act.put, List.setIfInBounds_toArray, List.set_cons_zero, List.set_cons_succ]
                refine wpAnyH_done (by kernel_rfl) ?_ _
                go_wp2
                go_ret
                exact ⟨ret_bool HF.out.symm, (HS1.out.tran SA1).1⟩
        · have HF : Hid (goodHv l = true ∧ Below W.heap.size W wr) := ⟨goodHv_yes l h10 fun j hj => HK.out.1 j (by omega), HK.out.2.1⟩
          have hlt' : ¬ (k : Int) < (l.length : Int) := by omega
          clear HK
          go_wp2
          go_ret
          exact ⟨ret_bool HF.out.1.symm, HF.out.2⟩
  · have d2 : (30 : Int) < (l.length : Int) := by omega
    have HF : Hid (goodHv l = false) := goodHv_long l h10
    clear hc1
    go_enter Try.func22, Try.ntmps22
    go_wp2
    go_ret
    exact ⟨ret_bool HF.out.symm, Below.refl _ _⟩
end Go.Proofs.Ytkpdiojomgiocac
