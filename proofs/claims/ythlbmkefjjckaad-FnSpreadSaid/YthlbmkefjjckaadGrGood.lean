/-
  'GoodEdges' of the program.
-/
import Derived.Test.YthlbmkefjjckaadGrJoint
namespace Go.Proofs.Ythlbmkefjjckaad
open Go.RowKit
set_option linter.unusedVariables false

theorem stepEd_zero (n : Int) (l : List EdD) (h : 0 < l.length) : stepEd n l 0 = okEd n l[0] := by
  unfold stepEd
  rw [getEd l 0 h]
  simp
theorem stepEd_succ (n : Int) (l : List EdD) (j : Nat) (h : j + 1 < l.length) : stepEd n l (j + 1) = (okEd n l[j + 1] && ahead l[j] l[j + 1]) := by
  unfold stepEd
  rw [getEd l (j + 1) h, Nat.add_sub_cancel, getEd l j (by omega)]
  simp
theorem okEd_okJ (n : Int) (x : EdD) (h : okJ n x.A x.B x.Cost = true) : okEd n x = decide (x.A < x.B) := by
  unfold okJ at h
  unfold okEd
  rw [Bool.eq_iff_iff]
  simp at h ⊢
  omega
theorem okJ_okEd (n : Int) (x : EdD) (h : okEd n x = true) : okJ n x.A x.B x.Cost = true := by
  unfold okEd at h
  unfold okJ
  have := of_decide_eq_true h
  simp
  omega
theorem goodJEd_of (n : Int) (l : List EdD) (h : goodEd n l = true) : goodJEd n l 40 = true := by
  unfold goodEd at h
  rw [Bool.and_eq_true, Bool.and_eq_true] at h
  refine goodJEd_yes n l 40 (of_decide_eq_true h.1.1) (by have := of_decide_eq_true h.1.2; omega) fun j hj => ?_
  have := List.all_eq_true.1 h.2 j (List.mem_range.2 hj)
  unfold stepEd at this
  rw [Bool.and_eq_true, getEd l j hj] at this
  exact okJ_okEd n _ this.1
theorem goodJEd_true {n : Int} {l : List EdD} {m : Int} (h : goodJEd n l m = true) : (1 ≤ n ∧ n ≤ 12) ∧ (l.length : Int) ≤ m ∧ ∀ j (hj : j < l.length), okJ n l[j].A l[j].B l[j].Cost = true := by
  unfold goodJEd at h
  rw [Bool.and_eq_true, Bool.and_eq_true] at h
  exact ⟨of_decide_eq_true h.1.1, of_decide_eq_true h.1.2, fun j hj => List.all_eq_true.1 h.2 _ (List.getElem_mem hj)⟩
theorem standsAhead_any (W : World) (x y : EdD) : Calls Try.prog 70 #[.agg #[.int .i64 x.A, .int .i64 x.B, .int .i64 x.Cost], .agg #[.int .i64 y.A, .int .i64 y.B, .int .i64 y.Cost]] W fun e W' => e = .returned (.bool (ahead x y)) ∧ Below W.heap.size W W' := by
  have HB : Hid (Below W.heap.size W ((W.alloc (.cells #[.int .i64 x.A, .int .i64 x.B, .int .i64 x.Cost] 84)).alloc (.cells #[.int .i64 y.A, .int .i64 y.B, .int .i64 y.Cost] 84))) := ((Below.refl _ W).alloc (Nat.le_refl _) _).alloc (by simp) _
  by_cases h : x.A = y.A
  · have d1 : (x.A == y.A) = true := beq_iff_eq.2 h
    have e : ahead x y = decide (x.B < y.B) := by unfold ahead; rw [Bool.eq_iff_iff]; simp; omega
    rw [e]
    clear e h
    go_enter Try.func70, Try.ntmps70
    go_wp2
    go_ret
    exact ⟨rfl, HB.out⟩
  · have d1 : (x.A == y.A) = false := beq_eq_false_iff_ne.2 h
    have e : ahead x y = decide (x.A < y.A) := by unfold ahead; rw [Bool.eq_iff_iff]; simp; omega
    rw [e]
    clear e h
    go_enter Try.func70, Try.ntmps70
    go_wp2
    go_ret
    exact ⟨rfl, HB.out⟩

set_option maxRecDepth 100000 in
set_option maxHeartbeats 4000000 in
theorem implGoodEd_any (W : World) (v : Value) (n : Int) (l : List EdD) (h : ReadsEd W v l) (hl : l.length ≤ 2097152) :
    Calls Try.prog 42 #[.int .i64 n, v] W fun e W' => e = .returned (.bool (goodEd n l)) ∧ Below W.heap.size W W' := by
  have CJ : Hid (Calls Try.prog 69 #[.int .i64 n, v, .int .i64 40] W fun e W' => e = .returned (.bool (goodJEd n l 40)) ∧ Below W.heap.size W W') := areJointsEd_any W v l n 40 h hl
  obtain ⟨a1, cap1, rfl, hc1⟩ := h
  obtain ⟨gg, hgg⟩ : ∃ gg, gg = goodEd n l := ⟨_, rfl⟩
  rw [← hgg]
  have HO : Hid (gg = goodEd n l) := hgg
  clear hgg
  cases hj : goodJEd n l 40 with
  | false =>
    have HF : Hid (goodEd n l = false) := Bool.eq_false_iff.2 fun e => by rw [goodJEd_of n l e] at hj; cases hj
    rw [hj] at CJ
    clear hj hc1
    go_enter Try.func42, Try.ntmps42
    go_wp2_with fail
    refine CJ.out.mono ?_
    rintro e w1 ⟨rfl, hb1⟩
    have HB1 : Hid (Below W.heap.size W w1) := hb1
    clear hb1
    go_wp2
    go_ret
    exact ⟨ret_bool1 (HF.out.symm.trans HO.out.symm), HB1.out⟩
  | true =>
    rw [hj] at CJ
    have HJ : Hid ((1 ≤ n ∧ n ≤ 12) ∧ (l.length : Int) ≤ 40 ∧ ∀ j (hj : j < l.length), okJ n l[j].A l[j].B l[j].Cost = true) := goodJEd_true hj
    clear hj
    by_cases h1 : l = []
    · subst h1
      have HT : Hid (goodEd n [] = true) := goodEd_yes n [] HJ.out.1 (by simp) fun j hj => absurd hj (Nat.not_lt_zero _)
      simp only [List.length_nil] at *
      clear hc1
      go_enter Try.func42, Try.ntmps42
      go_wp2_with fail
      refine CJ.out.mono ?_
      rintro e w1 ⟨rfl, hb1⟩
      have HB1 : Hid (Below W.heap.size W w1) := hb1
      clear hb1
      go_wp2
      refine wp_loop_rounds 1 ?_
      rw [rounds_succ]
      go_wp2
      go_ret
      exact ⟨ret_bool1 (HT.out.symm.trans HO.out.symm), HB1.out⟩
    · obtain ⟨g1, o1, rfl, hg1, hc1⟩ := hc1.resolve_left h1
      have HC1 : Hid (∀ W1, Since W.heap.size W W1 → ∀ j (hj : j < l.length), EdAt W1 g1 (o1 + j * 3) l[j]) := fun W1 hS j hj => (hc1 j hj).below hg1 hS.1
      have HS0 : Hid (Since W.heap.size W W) := Since.start W
      clear hc1 hg1 h1
      go_enter Try.func42, Try.ntmps42
      go_wp2_with fail
      refine CJ.out.mono ?_
      rintro e w1 ⟨rfl, hb1⟩
      have HS1 : Hid (Since W.heap.size W w1) := HS0.out.step hb1
      clear hb1 HS0
      go_wp2
      go_loopw [13] (fun i wr => ∃ k : Nat, k ≤ l.length ∧ i = .int .i64 k ∧ Hid ((∀ j, j < k → stepEd n l j = true) ∧ Since W.heap.size W wr)) (fun i _ => l.length - (intOf i).toNat)
      case atStart => exact ⟨0, Nat.zero_le _, rfl, fun j hj => absurd hj (Nat.not_lt_zero _), HS1.out⟩
      case round =>
        clear HS1
        obtain ⟨k, hk, rfl, HK⟩ := hrel
        by_cases hlt : k < l.length
        · obtain ⟨hA, hS⟩ := HK.out
          have hlt' : (k : Int) < (l.length : Int) := by omega
          obtain ⟨q0, q1, q2⟩ := HC1.out wr hS k hlt
          have HOK : Hid (stepEd n l k = true → ∀ j, j < k + 1 → stepEd n l j = true) := fun ho j hj => by
            by_cases e : j = k
            · rw [e]; exact ho
            · exact hA j (by omega)
          have HNO : Hid (stepEd n l k = false → goodEd n l = false) := goodEd_no n l k hlt
          have hok := okEd_okJ n l[k] (HJ.out.2.2 k hlt)
          have HPR : Hid (k = 0 ∨ ∃ j y, k = j + 1 ∧ (∀ W1, Since W.heap.size W W1 → EdAt W1 g1 (o1 + j * 3) y) ∧ stepEd n l k = (decide (l[k].A < l[k].B) && ahead y l[k])) := by
            cases k with
            | zero => exact .inl rfl
            | succ j => exact .inr ⟨j, l[j], rfl, fun W1 hS1 => HC1.out W1 hS1 j (by omega), by rw [stepEd_succ n l j hlt, hok]⟩
          have HP0 : Hid (k = 0 → stepEd n l k = decide (l[k].A < l[k].B)) := fun e => by subst e; rw [stepEd_zero n l hlt, hok]
          have HGB : Hid (¬ l[k].A < l[k].B → stepEd n l k = false) := fun hg => by
            rcases HPR.out with e | ⟨j, y, e, -, ho⟩
            · rw [HP0.out e, decide_eq_false hg]
            · rw [ho, decide_eq_false hg]; rfl
          clear hok
          generalize l[k] = x at *
          generalize stepEd n l k = oo at *
          have HS1 : Hid (Since W.heap.size W (wr.alloc (.cells #[.int .i64 x.A, .int .i64 x.B, .int .i64 x.Cost] 84))) := hS.step ((Below.refl _ wr).alloc (Nat.le_refl _) _)
          have HX : Hid (∀ w', Since (wr.alloc (.cells #[.int .i64 x.A, .int .i64 x.B, .int .i64 x.Cost] 84)).heap.size (wr.alloc (.cells #[.int .i64 x.A, .int .i64 x.B, .int .i64 x.Cost] 84)) w' → w'.cell? ⟨wr.heap.size, 0, none⟩ = some (.int .i64 x.A) ∧ w'.cell? ⟨wr.heap.size, 1, none⟩ = some (.int .i64 x.B) ∧ w'.cell? ⟨wr.heap.size, 2, none⟩ = some (.int .i64 x.Cost)) := newEd wr x
          clear hA hS HK HC1
          by_cases hab : x.A < x.B
          · have hge : decide (x.B ≤ x.A) = false := by simp; omega
            rcases HPR.out with e0 | ⟨j, y, ej, hy, ho⟩
            · have HA1 : Hid (∀ j, j < k + 1 → stepEd n l j = true) := HOK.out ((HP0.out e0).trans (decide_eq_true hab))
              have HE0 : Hid (k = 0) := e0
              clear HOK HNO HPR HP0 HGB e0 hab
              go_wp2
              have SA0 := Since.start (wr.alloc (.cells #[.int .i64 x.A, .int .i64 x.B, .int .i64 x.Cost] 84))
              have e0 : k = 0 := HE0.out
              refine wp_region_held_drew (S := (fun w' => (w'.cell? ⟨wr.heap.size, 0, none⟩ = some (.int .i64 x.A) ∧ w'.cell? ⟨wr.heap.size, 1, none⟩ = some (.int .i64 x.B) ∧ w'.cell? ⟨wr.heap.size, 2, none⟩ = some (.int .i64 x.Cost)))) (by kernel_rfl) ?_ (fun hHeld => ?_)
              · exact HX.out _ SA0.drew
              refine handRead 0 (some 18) (.pointer (some ⟨wr.heap.size, 0, none⟩)) rfl rfl (by kernel_rfl) (by kernel_rfl) (by kernel_rfl) (fun _ _ _ h => h) (by kernel_rfl) (by assumption) ?_ ?_
              · intro w hSw
                (try dsimp only at hSw)
                go_simp
              simp only [Act.put, List.setIfInBounds_toArray, List.set_cons_zero, List.set_cons_succ]
              refine handRead 1 (some 19) (.int .i64 x.A) rfl rfl (by kernel_rfl) (by kernel_rfl) (by kernel_rfl) (fun _ _ _ h => h) (by kernel_rfl) (by assumption) ?_ ?_
              · intro w hSw
                (try dsimp only at hSw)
                go_simp
              simp only [Act.put, List.setIfInBounds_toArray, List.set_cons_zero, List.set_cons_succ]
              refine handRead 2 (some 20) (.pointer (some ⟨wr.heap.size, 1, none⟩)) rfl rfl (by kernel_rfl) (by kernel_rfl) (by kernel_rfl) (fun _ _ _ h => h) (by kernel_rfl) (by assumption) ?_ ?_
              · intro w hSw
                (try dsimp only at hSw)
                go_simp
              simp only [Act.put, List.setIfInBounds_toArray, List.set_cons_zero, List.set_cons_succ]
              refine handRead 3 (some 21) (.int .i64 x.B) rfl rfl (by kernel_rfl) (by kernel_rfl) (by kernel_rfl) (fun _ _ _ h => h) (by kernel_rfl) (by assumption) ?_ ?_
              · intro w hSw
                (try dsimp only at hSw)
                go_simp
              simp only [Act.put, List.setIfInBounds_toArray, List.set_cons_zero, List.set_cons_succ]
              refine handRead 4 (some 22) (.bool false) rfl rfl (by kernel_rfl) (by kernel_rfl) (by kernel_rfl) (fun _ _ _ h => h) (by kernel_rfl) (by assumption) ?_ ?_
              · intro w hSw
                (try dsimp only at hSw)
                go_simp
              simp only [Act.put, List.setIfInBounds_toArray, List.set_cons_zero, List.set_cons_succ]
              refine handRead 5 (some 23) (.bool false) rfl rfl (by kernel_rfl) (by kernel_rfl) (by kernel_rfl) (fun _ _ _ h => h) (by kernel_rfl) (by assumption) ?_ ?_
              · intro w hSw
                (try dsimp only at hSw)
                go_simp
              simp only [Act.put, List.setIfInBounds_toArray, List.set_cons_zero, List.set_cons_succ]
              refine handRead 6 (some 24) (.int .i64 k) rfl rfl (by kernel_rfl) (by kernel_rfl) (by kernel_rfl) (fun _ _ _ h => h) (by kernel_rfl) (by assumption) ?_ ?_
              · intro w hSw
                (try dsimp only at hSw)
                go_simp
              simp only [Act.put, List.setIfInBounds_toArray, List.set_cons_zero, List.set_cons_succ]
              refine handRead 7 (some 25) (.bool false) rfl rfl (by kernel_rfl) (by kernel_rfl) (by kernel_rfl) (fun _ _ _ h => h) (by kernel_rfl) (by assumption) ?_ ?_
              · intro w hSw
                (try dsimp only at hSw)
                go_simp
              simp only [Act.put, List.setIfInBounds_toArray, List.set_cons_zero, List.set_cons_succ]
              refine handRead 8 (some 26) (.bool false) rfl rfl (by kernel_rfl) (by kernel_rfl) (by kernel_rfl) (fun _ _ _ h => h) (by kernel_rfl) (by assumption) ?_ ?_
              · intro w hSw
                (try dsimp only at hSw)
                go_simp
              simp only [Act.put, List.setIfInBounds_toArray, List.set_cons_zero, List.set_cons_succ]
              refine handSkip 9 (some 27) rfl rfl (by kernel_rfl) (by kernel_rfl) (by kernel_rfl) (fun _ _ _ h => h) (by kernel_rfl) (by assumption) ?_
              simp only [Act.put, List.setIfInBounds_toArray, List.set_cons_zero, List.set_cons_succ]
              refine handSkip 10 (some 28) rfl rfl (by kernel_rfl) (by kernel_rfl) (by kernel_rfl) (fun _ _ _ h => h) (by kernel_rfl) (by assumption) ?_
              simp only [Act.put, List.setIfInBounds_toArray, List.set_cons_zero, List.set_cons_succ]
              refine handSkip 11 (some 29) rfl rfl (by kernel_rfl) (by kernel_rfl) (by kernel_rfl) (fun _ _ _ h => h) (by kernel_rfl) (by assumption) ?_
              simp only [Act.put, List.setIfInBounds_toArray, List.set_cons_zero, List.set_cons_succ]
              refine handSkip 12 (some 30) rfl rfl (by kernel_rfl) (by kernel_rfl) (by kernel_rfl) (fun _ _ _ h => h) (by kernel_rfl) (by assumption) ?_
              simp only [Act.put, List.setIfInBounds_toArray, List.set_cons_zero, List.set_cons_succ]
              refine handSkip 13 (some 31) rfl rfl (by kernel_rfl) (by kernel_rfl) (by kernel_rfl) (fun _ _ _ h => h) (by kernel_rfl) (by assumption) ?_
              simp only [Act.put, List.setIfInBounds_toArray, List.set_cons_zero, List.set_cons_succ]
              refine handSkip 14 (some 32) rfl rfl (by kernel_rfl) (by kernel_rfl) (by kernel_rfl) (fun _ _ _ h => h) (by kernel_rfl) (by assumption) ?_
              simp only [Act.put, List.setIfInBounds_toArray, List.set_cons_zero, List.set_cons_succ]
              refine handSkip 15 (some 33) rfl rfl (by kernel_rfl) (by kernel_rfl) (by kernel_rfl) (fun _ _ _ h => h) (by kernel_rfl) (by assumption) ?_
              simp only [Act.put, List.setIfInBounds_toArray, List.set_cons_zero, List.set_cons_succ]
              refine handSkip 16 (some 34) rfl rfl (by kernel_rfl) (by kernel_rfl) (by kernel_rfl) (fun _ _ _ h => h) (by kernel_rfl) (by assumption) ?_
              simp only [Act.put, List.setIfInBounds_toArray, List.set_cons_zero, List.set_cons_succ]
              refine handRead 17 (some 35) (.bool false) rfl rfl (by kernel_rfl) (by kernel_rfl) (by kernel_rfl) (fun _ _ _ h => h) (by kernel_rfl) (by assumption) ?_ ?_
              · intro w hSw
                (try dsimp only at hSw)
                go_simp
              simp only [Act.put, List.setIfInBounds_toArray, List.set_cons_zero, List.set_cons_succ]
              refine handRead 18 (some 36) (.bool false) rfl rfl (by kernel_rfl) (by kernel_rfl) (by kernel_rfl) (fun _ _ _ h => h) (by kernel_rfl) (by assumption) ?_ ?_
              · intro w hSw
                (try dsimp only at hSw)
                go_simp
              simp only [Act.put, List.setIfInBounds_toArray, List.set_cons_zero, List.set_cons_succ]
              refine wpAnyH_done (by kernel_rfl) ?_ _
              clear e0
              go_wp2
              go_roundw
              case rel => exact ⟨k + 1, by omega, by go_num, HA1.out, HS1.out.tran SA0.drew⟩
              case measure => simp [intOf]; omega
            · have HY : Hid (∀ w', Since (wr.alloc (.cells #[.int .i64 x.A, .int .i64 x.B, .int .i64 x.Cost] 84)).heap.size (wr.alloc (.cells #[.int .i64 x.A, .int .i64 x.B, .int .i64 x.Cost] 84)) w' → w'.cell? ⟨g1, o1 + j * 3, none⟩ = some (.int .i64 y.A) ∧ w'.cell? ⟨g1, o1 + j * 3 + 1, none⟩ = some (.int .i64 y.B) ∧ w'.cell? ⟨g1, o1 + j * 3 + 2, none⟩ = some (.int .i64 y.Cost)) := fun w' hs => hy w' (HS1.out.tran hs)
              have hjl : (j : Int) < (l.length : Int) := by omega
              have hw1 : IntKind.i64.wrap ((k : Int) - 1) = (j : Int) := by rw [IntKind.wrap_i64]; omega
              have hk0 : 0 < k := by omega
              rw [decide_eq_true hab, Bool.true_and] at ho
              clear HPR HP0 HGB hy hab
              cases hah : ahead y x with
              | true =>
                have HA1 : Hid (∀ j, j < k + 1 → stepEd n l j = true) := HOK.out (ho.trans hah)
                have CG : Hid (∀ w', Calls Try.prog 70 #[.agg #[.int .i64 y.A, .int .i64 y.B, .int .i64 y.Cost], .agg #[.int .i64 x.A, .int .i64 x.B, .int .i64 x.Cost]] w' fun e w2 => e = .returned (.bool true) ∧ Below w'.heap.size w' w2) := fun w' => by have := standsAhead_any w' y x; rw [hah] at this; exact this
                clear HOK HNO ho hah ej
                go_wp2
                have SA0 := Since.start (wr.alloc (.cells #[.int .i64 x.A, .int .i64 x.B, .int .i64 x.Cost] 84))
                refine wp_region_held_drew (S := (fun w' => (w'.cell? ⟨wr.heap.size, 0, none⟩ = some (.int .i64 x.A) ∧ w'.cell? ⟨wr.heap.size, 1, none⟩ = some (.int .i64 x.B) ∧ w'.cell? ⟨wr.heap.size, 2, none⟩ = some (.int .i64 x.Cost)) ∧ (w'.cell? ⟨g1, o1 + j * 3, none⟩ = some (.int .i64 y.A) ∧ w'.cell? ⟨g1, o1 + j * 3 + 1, none⟩ = some (.int .i64 y.B) ∧ w'.cell? ⟨g1, o1 + j * 3 + 2, none⟩ = some (.int .i64 y.Cost)))) (by kernel_rfl) ?_ (fun hHeld => ?_)
                · exact ⟨HX.out _ SA0.drew, HY.out _ SA0.drew⟩
                refine handRead 0 (some 18) (.pointer (some ⟨wr.heap.size, 0, none⟩)) rfl rfl (by kernel_rfl) (by kernel_rfl) (by kernel_rfl) (fun _ _ _ h => h) (by kernel_rfl) (by assumption) ?_ ?_
                · intro w hSw
                  (try dsimp only at hSw)
                  go_simp
                simp only [Act.put, List.setIfInBounds_toArray, List.set_cons_zero, List.set_cons_succ]
                refine handRead 1 (some 19) (.int .i64 x.A) rfl rfl (by kernel_rfl) (by kernel_rfl) (by kernel_rfl) (fun _ _ _ h => h) (by kernel_rfl) (by assumption) ?_ ?_
                · intro w hSw
                  (try dsimp only at hSw)
                  go_simp
                simp only [Act.put, List.setIfInBounds_toArray, List.set_cons_zero, List.set_cons_succ]
                refine handRead 2 (some 20) (.pointer (some ⟨wr.heap.size, 1, none⟩)) rfl rfl (by kernel_rfl) (by kernel_rfl) (by kernel_rfl) (fun _ _ _ h => h) (by kernel_rfl) (by assumption) ?_ ?_
                · intro w hSw
                  (try dsimp only at hSw)
                  go_simp
                simp only [Act.put, List.setIfInBounds_toArray, List.set_cons_zero, List.set_cons_succ]
                refine handRead 3 (some 21) (.int .i64 x.B) rfl rfl (by kernel_rfl) (by kernel_rfl) (by kernel_rfl) (fun _ _ _ h => h) (by kernel_rfl) (by assumption) ?_ ?_
                · intro w hSw
                  (try dsimp only at hSw)
                  go_simp
                simp only [Act.put, List.setIfInBounds_toArray, List.set_cons_zero, List.set_cons_succ]
                refine handRead 4 (some 22) (.bool false) rfl rfl (by kernel_rfl) (by kernel_rfl) (by kernel_rfl) (fun _ _ _ h => h) (by kernel_rfl) (by assumption) ?_ ?_
                · intro w hSw
                  (try dsimp only at hSw)
                  go_simp
                simp only [Act.put, List.setIfInBounds_toArray, List.set_cons_zero, List.set_cons_succ]
                refine handRead 5 (some 23) (.bool false) rfl rfl (by kernel_rfl) (by kernel_rfl) (by kernel_rfl) (fun _ _ _ h => h) (by kernel_rfl) (by assumption) ?_ ?_
                · intro w hSw
                  (try dsimp only at hSw)
                  go_simp
                simp only [Act.put, List.setIfInBounds_toArray, List.set_cons_zero, List.set_cons_succ]
                refine handRead 6 (some 24) (.int .i64 k) rfl rfl (by kernel_rfl) (by kernel_rfl) (by kernel_rfl) (fun _ _ _ h => h) (by kernel_rfl) (by assumption) ?_ ?_
                · intro w hSw
                  (try dsimp only at hSw)
                  go_simp
                simp only [Act.put, List.setIfInBounds_toArray, List.set_cons_zero, List.set_cons_succ]
                refine handRead 7 (some 25) (.bool true) rfl rfl (by kernel_rfl) (by kernel_rfl) (by kernel_rfl) (fun _ _ _ h => h) (by kernel_rfl) (by assumption) ?_ ?_
                · intro w hSw
                  (try dsimp only at hSw)
                  go_simp
                simp only [Act.put, List.setIfInBounds_toArray, List.set_cons_zero, List.set_cons_succ]
                refine handRead 8 (some 26) (.bool true) rfl rfl (by kernel_rfl) (by kernel_rfl) (by kernel_rfl) (fun _ _ _ h => h) (by kernel_rfl) (by assumption) ?_ ?_
                · intro w hSw
                  (try dsimp only at hSw)
                  go_simp
                simp only [Act.put, List.setIfInBounds_toArray, List.set_cons_zero, List.set_cons_succ]
                refine handRead 9 (some 27) (.slice (some ⟨g1, o1, none⟩) l.length cap1) rfl rfl (by kernel_rfl) (by kernel_rfl) (by kernel_rfl) (fun _ _ _ h => h) (by kernel_rfl) (by assumption) ?_ ?_
                · intro w hSw
                  (try dsimp only at hSw)
                  go_simp
                simp only [Act.put, List.setIfInBounds_toArray, List.set_cons_zero, List.set_cons_succ]
                refine handRead 10 (some 28) (.int .i64 k) rfl rfl (by kernel_rfl) (by kernel_rfl) (by kernel_rfl) (fun _ _ _ h => h) (by kernel_rfl) (by assumption) ?_ ?_
                · intro w hSw
                  (try dsimp only at hSw)
                  go_simp
                simp only [Act.put, List.setIfInBounds_toArray, List.set_cons_zero, List.set_cons_succ]
                refine handRead 11 (some 29) (.int .i64 j) rfl rfl (by kernel_rfl) (by kernel_rfl) (by kernel_rfl) (fun _ _ _ h => h) (by kernel_rfl) (by assumption) ?_ ?_
                · intro w hSw
                  (try dsimp only at hSw)
                  go_simp
                simp only [Act.put, List.setIfInBounds_toArray, List.set_cons_zero, List.set_cons_succ]
                refine handRead 12 (some 30) (.pointer (some ⟨g1, o1 + j * 3, none⟩)) rfl rfl (by kernel_rfl) (by kernel_rfl) (by kernel_rfl) (fun _ _ _ h => h) (by kernel_rfl) (by assumption) ?_ ?_
                · intro w hSw
                  (try dsimp only at hSw)
                  go_simp
                simp only [Act.put, List.setIfInBounds_toArray, List.set_cons_zero, List.set_cons_succ]
                refine handRead 13 (some 31) (.agg #[.int .i64 y.A, .int .i64 y.B, .int .i64 y.Cost]) rfl rfl (by kernel_rfl) (by kernel_rfl) (by kernel_rfl) (fun _ _ _ h => h) (by kernel_rfl) (by assumption) ?_ ?_
                · intro w hSw
                  (try dsimp only at hSw)
                  go_simp
                simp only [Act.put, List.setIfInBounds_toArray, List.set_cons_zero, List.set_cons_succ]
                refine handRead 14 (some 32) (.agg #[.int .i64 x.A, .int .i64 x.B, .int .i64 x.Cost]) rfl rfl (by kernel_rfl) (by kernel_rfl) (by kernel_rfl) (fun _ _ _ h => h) (by kernel_rfl) (by assumption) ?_ ?_
                · intro w hSw
                  (try dsimp only at hSw)
                  go_simp
                simp only [Act.put, List.setIfInBounds_toArray, List.set_cons_zero, List.set_cons_succ]
                refine handCall 15 (some 33) 70 #[.agg #[.int .i64 y.A, .int .i64 y.B, .int .i64 y.Cost], .agg #[.int .i64 x.A, .int .i64 x.B, .int .i64 x.Cost]] (by kernel_rfl) rfl rfl (by kernel_rfl) (by simp [go_sem]) ((CG.out _).mono ?_)
                rintro e w1 ⟨rfl, hb1⟩
                have SA1 := SA0.drew.step hb1
                clear hHeld
                refine ⟨_, rfl, (by exact ⟨HX.out _ SA1, HY.out _ SA1⟩), fun hHeld => ?_⟩
                simp only [Act.put, List.setIfInBounds_toArray, List.set_cons_zero, List.set_cons_succ]
                refine handRead 16 (some 34) (.bool false) rfl rfl (by kernel_rfl) (by kernel_rfl) (by kernel_rfl) (fun _ _ _ h => h) (by kernel_rfl) (by assumption) ?_ ?_
                · intro w hSw
                  (try dsimp only at hSw)
                  go_simp
                simp only [Act.put, List.setIfInBounds_toArray, List.set_cons_zero, List.set_cons_succ]
                refine handRead 17 (some 35) (.bool false) rfl rfl (by kernel_rfl) (by kernel_rfl) (by kernel_rfl) (fun _ _ _ h => h) (by kernel_rfl) (by assumption) ?_ ?_
                · intro w hSw
                  (try dsimp only at hSw)
                  go_simp
                simp only [Act.put, List.setIfInBounds_toArray, List.set_cons_zero, List.set_cons_succ]
                refine handRead 18 (some 36) (.bool false) rfl rfl (by kernel_rfl) (by kernel_rfl) (by kernel_rfl) (fun _ _ _ h => h) (by kernel_rfl) (by assumption) ?_ ?_
                · intro w hSw
                  (try dsimp only at hSw)
                  go_simp
                simp only [Act.put, List.setIfInBounds_toArray, List.set_cons_zero, List.set_cons_succ]
                refine wpAnyH_done (by kernel_rfl) ?_ _
                go_wp2
                go_roundw
                case rel => exact ⟨k + 1, by omega, by go_num, HA1.out, HS1.out.tran SA1⟩
                case measure => simp [intOf]; omega
              | false =>
                have HF : Hid (goodEd n l = false) := HNO.out (ho.trans hah)
                have CG : Hid (∀ w', Calls Try.prog 70 #[.agg #[.int .i64 y.A, .int .i64 y.B, .int .i64 y.Cost], .agg #[.int .i64 x.A, .int .i64 x.B, .int .i64 x.Cost]] w' fun e w2 => e = .returned (.bool false) ∧ Below w'.heap.size w' w2) := fun w' => by have := standsAhead_any w' y x; rw [hah] at this; exact this
                clear HOK HNO ho hah ej
                go_wp2
                have SA0 := Since.start (wr.alloc (.cells #[.int .i64 x.A, .int .i64 x.B, .int .i64 x.Cost] 84))
                refine wp_region_held_drew (S := (fun w' => (w'.cell? ⟨wr.heap.size, 0, none⟩ = some (.int .i64 x.A) ∧ w'.cell? ⟨wr.heap.size, 1, none⟩ = some (.int .i64 x.B) ∧ w'.cell? ⟨wr.heap.size, 2, none⟩ = some (.int .i64 x.Cost)) ∧ (w'.cell? ⟨g1, o1 + j * 3, none⟩ = some (.int .i64 y.A) ∧ w'.cell? ⟨g1, o1 + j * 3 + 1, none⟩ = some (.int .i64 y.B) ∧ w'.cell? ⟨g1, o1 + j * 3 + 2, none⟩ = some (.int .i64 y.Cost)))) (by kernel_rfl) ?_ (fun hHeld => ?_)
                · exact ⟨HX.out _ SA0.drew, HY.out _ SA0.drew⟩
                refine handRead 0 (some 18) (.pointer (some ⟨wr.heap.size, 0, none⟩)) rfl rfl (by kernel_rfl) (by kernel_rfl) (by kernel_rfl) (fun _ _ _ h => h) (by kernel_rfl) (by assumption) ?_ ?_
                · intro w hSw
                  (try dsimp only at hSw)
                  go_simp
                simp only [Act.put, List.setIfInBounds_toArray, List.set_cons_zero, List.set_cons_succ]
                refine handRead 1 (some 19) (.int .i64 x.A) rfl rfl (by kernel_rfl) (by kernel_rfl) (by kernel_rfl) (fun _ _ _ h => h) (by kernel_rfl) (by assumption) ?_ ?_
                · intro w hSw
                  (try dsimp only at hSw)
                  go_simp
                simp only [Act.put, List.setIfInBounds_toArray, List.set_cons_zero, List.set_cons_succ]
                refine handRead 2 (some 20) (.pointer (some ⟨wr.heap.size, 1, none⟩)) rfl rfl (by kernel_rfl) (by kernel_rfl) (by kernel_rfl) (fun _ _ _ h => h) (by kernel_rfl) (by assumption) ?_ ?_
                · intro w hSw
                  (try dsimp only at hSw)
                  go_simp
                simp only [Act.put, List.setIfInBounds_toArray, List.set_cons_zero, List.set_cons_succ]
                refine handRead 3 (some 21) (.int .i64 x.B) rfl rfl (by kernel_rfl) (by kernel_rfl) (by kernel_rfl) (fun _ _ _ h => h) (by kernel_rfl) (by assumption) ?_ ?_
                · intro w hSw
                  (try dsimp only at hSw)
                  go_simp
                simp only [Act.put, List.setIfInBounds_toArray, List.set_cons_zero, List.set_cons_succ]
                refine handRead 4 (some 22) (.bool false) rfl rfl (by kernel_rfl) (by kernel_rfl) (by kernel_rfl) (fun _ _ _ h => h) (by kernel_rfl) (by assumption) ?_ ?_
                · intro w hSw
                  (try dsimp only at hSw)
                  go_simp
                simp only [Act.put, List.setIfInBounds_toArray, List.set_cons_zero, List.set_cons_succ]
                refine handRead 5 (some 23) (.bool false) rfl rfl (by kernel_rfl) (by kernel_rfl) (by kernel_rfl) (fun _ _ _ h => h) (by kernel_rfl) (by assumption) ?_ ?_
                · intro w hSw
                  (try dsimp only at hSw)
                  go_simp
                simp only [Act.put, List.setIfInBounds_toArray, List.set_cons_zero, List.set_cons_succ]
                refine handRead 6 (some 24) (.int .i64 k) rfl rfl (by kernel_rfl) (by kernel_rfl) (by kernel_rfl) (fun _ _ _ h => h) (by kernel_rfl) (by assumption) ?_ ?_
                · intro w hSw
                  (try dsimp only at hSw)
                  go_simp
                simp only [Act.put, List.setIfInBounds_toArray, List.set_cons_zero, List.set_cons_succ]
                refine handRead 7 (some 25) (.bool true) rfl rfl (by kernel_rfl) (by kernel_rfl) (by kernel_rfl) (fun _ _ _ h => h) (by kernel_rfl) (by assumption) ?_ ?_
                · intro w hSw
                  (try dsimp only at hSw)
                  go_simp
                simp only [Act.put, List.setIfInBounds_toArray, List.set_cons_zero, List.set_cons_succ]
                refine handRead 8 (some 26) (.bool true) rfl rfl (by kernel_rfl) (by kernel_rfl) (by kernel_rfl) (fun _ _ _ h => h) (by kernel_rfl) (by assumption) ?_ ?_
                · intro w hSw
                  (try dsimp only at hSw)
                  go_simp
                simp only [Act.put, List.setIfInBounds_toArray, List.set_cons_zero, List.set_cons_succ]
                refine handRead 9 (some 27) (.slice (some ⟨g1, o1, none⟩) l.length cap1) rfl rfl (by kernel_rfl) (by kernel_rfl) (by kernel_rfl) (fun _ _ _ h => h) (by kernel_rfl) (by assumption) ?_ ?_
                · intro w hSw
                  (try dsimp only at hSw)
                  go_simp
                simp only [Act.put, List.setIfInBounds_toArray, List.set_cons_zero, List.set_cons_succ]
                refine handRead 10 (some 28) (.int .i64 k) rfl rfl (by kernel_rfl) (by kernel_rfl) (by kernel_rfl) (fun _ _ _ h => h) (by kernel_rfl) (by assumption) ?_ ?_
                · intro w hSw
                  (try dsimp only at hSw)
                  go_simp
                simp only [Act.put, List.setIfInBounds_toArray, List.set_cons_zero, List.set_cons_succ]
                refine handRead 11 (some 29) (.int .i64 j) rfl rfl (by kernel_rfl) (by kernel_rfl) (by kernel_rfl) (fun _ _ _ h => h) (by kernel_rfl) (by assumption) ?_ ?_
                · intro w hSw
                  (try dsimp only at hSw)
                  go_simp
                simp only [Act.put, List.setIfInBounds_toArray, List.set_cons_zero, List.set_cons_succ]
                refine handRead 12 (some 30) (.pointer (some ⟨g1, o1 + j * 3, none⟩)) rfl rfl (by kernel_rfl) (by kernel_rfl) (by kernel_rfl) (fun _ _ _ h => h) (by kernel_rfl) (by assumption) ?_ ?_
                · intro w hSw
                  (try dsimp only at hSw)
                  go_simp
                simp only [Act.put, List.setIfInBounds_toArray, List.set_cons_zero, List.set_cons_succ]
                refine handRead 13 (some 31) (.agg #[.int .i64 y.A, .int .i64 y.B, .int .i64 y.Cost]) rfl rfl (by kernel_rfl) (by kernel_rfl) (by kernel_rfl) (fun _ _ _ h => h) (by kernel_rfl) (by assumption) ?_ ?_
                · intro w hSw
                  (try dsimp only at hSw)
                  go_simp
                simp only [Act.put, List.setIfInBounds_toArray, List.set_cons_zero, List.set_cons_succ]
                refine handRead 14 (some 32) (.agg #[.int .i64 x.A, .int .i64 x.B, .int .i64 x.Cost]) rfl rfl (by kernel_rfl) (by kernel_rfl) (by kernel_rfl) (fun _ _ _ h => h) (by kernel_rfl) (by assumption) ?_ ?_
                · intro w hSw
                  (try dsimp only at hSw)
                  go_simp
                simp only [Act.put, List.setIfInBounds_toArray, List.set_cons_zero, List.set_cons_succ]
                refine handCall 15 (some 33) 70 #[.agg #[.int .i64 y.A, .int .i64 y.B, .int .i64 y.Cost], .agg #[.int .i64 x.A, .int .i64 x.B, .int .i64 x.Cost]] (by kernel_rfl) rfl rfl (by kernel_rfl) (by simp [go_sem]) ((CG.out _).mono ?_)
                rintro e w1 ⟨rfl, hb1⟩
                have SA1 := SA0.drew.step hb1
                clear hHeld
                refine ⟨_, rfl, (by exact ⟨HX.out _ SA1, HY.out _ SA1⟩), fun hHeld => ?_⟩
                simp only [Act.put, List.setIfInBounds_toArray, List.set_cons_zero, List.set_cons_succ]
                refine handRead 16 (some 34) (.bool true) rfl rfl (by kernel_rfl) (by kernel_rfl) (by kernel_rfl) (fun _ _ _ h => h) (by kernel_rfl) (by assumption) ?_ ?_
                · intro w hSw
                  (try dsimp only at hSw)
                  go_simp
                simp only [Act.put, List.setIfInBounds_toArray, List.set_cons_zero, List.set_cons_succ]
                refine handRead 17 (some 35) (.bool true) rfl rfl (by kernel_rfl) (by kernel_rfl) (by kernel_rfl) (fun _ _ _ h => h) (by kernel_rfl) (by assumption) ?_ ?_
                · intro w hSw
                  (try dsimp only at hSw)
                  go_simp
                simp only [Act.put, List.setIfInBounds_toArray, List.set_cons_zero, List.set_cons_succ]
                refine handRead 18 (some 36) (.bool true) rfl rfl (by kernel_rfl) (by kernel_rfl) (by kernel_rfl) (fun _ _ _ h => h) (by kernel_rfl) (by assumption) ?_ ?_
                · intro w hSw
                  (try dsimp only at hSw)
                  go_simp
                simp only [Act.put, List.setIfInBounds_toArray, List.set_cons_zero, List.set_cons_succ]
                refine wpAnyH_done (by kernel_rfl) ?_ _
                go_wp2
                go_ret
                exact ⟨ret_bool1 (HF.out.symm.trans HO.out.symm), (HS1.out.tran SA1).1⟩
          · have hge : decide (x.B ≤ x.A) = true := by simp; omega
            have HF : Hid (goodEd n l = false) := HNO.out (HGB.out hab)
            clear HOK HNO HPR HP0 HGB hab
            go_wp2
            have SA0 := Since.start (wr.alloc (.cells #[.int .i64 x.A, .int .i64 x.B, .int .i64 x.Cost] 84))
            refine wp_region_held_drew (S := (fun w' => (w'.cell? ⟨wr.heap.size, 0, none⟩ = some (.int .i64 x.A) ∧ w'.cell? ⟨wr.heap.size, 1, none⟩ = some (.int .i64 x.B) ∧ w'.cell? ⟨wr.heap.size, 2, none⟩ = some (.int .i64 x.Cost)))) (by kernel_rfl) ?_ (fun hHeld => ?_)
            · exact HX.out _ SA0.drew
            refine handRead 0 (some 18) (.pointer (some ⟨wr.heap.size, 0, none⟩)) rfl rfl (by kernel_rfl) (by kernel_rfl) (by kernel_rfl) (fun _ _ _ h => h) (by kernel_rfl) (by assumption) ?_ ?_
            · intro w hSw
              (try dsimp only at hSw)
              go_simp
            simp only [Act.put, List.setIfInBounds_toArray, List.set_cons_zero, List.set_cons_succ]
            refine handRead 1 (some 19) (.int .i64 x.A) rfl rfl (by kernel_rfl) (by kernel_rfl) (by kernel_rfl) (fun _ _ _ h => h) (by kernel_rfl) (by assumption) ?_ ?_
            · intro w hSw
              (try dsimp only at hSw)
              go_simp
            simp only [Act.put, List.setIfInBounds_toArray, List.set_cons_zero, List.set_cons_succ]
            refine handRead 2 (some 20) (.pointer (some ⟨wr.heap.size, 1, none⟩)) rfl rfl (by kernel_rfl) (by kernel_rfl) (by kernel_rfl) (fun _ _ _ h => h) (by kernel_rfl) (by assumption) ?_ ?_
            · intro w hSw
              (try dsimp only at hSw)
              go_simp
            simp only [Act.put, List.setIfInBounds_toArray, List.set_cons_zero, List.set_cons_succ]
            refine handRead 3 (some 21) (.int .i64 x.B) rfl rfl (by kernel_rfl) (by kernel_rfl) (by kernel_rfl) (fun _ _ _ h => h) (by kernel_rfl) (by assumption) ?_ ?_
            · intro w hSw
              (try dsimp only at hSw)
              go_simp
            simp only [Act.put, List.setIfInBounds_toArray, List.set_cons_zero, List.set_cons_succ]
            refine handRead 4 (some 22) (.bool true) rfl rfl (by kernel_rfl) (by kernel_rfl) (by kernel_rfl) (fun _ _ _ h => h) (by kernel_rfl) (by assumption) ?_ ?_
            · intro w hSw
              (try dsimp only at hSw)
              go_simp
            simp only [Act.put, List.setIfInBounds_toArray, List.set_cons_zero, List.set_cons_succ]
            refine handRead 5 (some 23) (.bool true) rfl rfl (by kernel_rfl) (by kernel_rfl) (by kernel_rfl) (fun _ _ _ h => h) (by kernel_rfl) (by assumption) ?_ ?_
            · intro w hSw
              (try dsimp only at hSw)
              go_simp
            simp only [Act.put, List.setIfInBounds_toArray, List.set_cons_zero, List.set_cons_succ]
            refine handSkip 6 (some 24) rfl rfl (by kernel_rfl) (by kernel_rfl) (by kernel_rfl) (fun _ _ _ h => h) (by kernel_rfl) (by assumption) ?_
            simp only [Act.put, List.setIfInBounds_toArray, List.set_cons_zero, List.set_cons_succ]
            refine handSkip 7 (some 25) rfl rfl (by kernel_rfl) (by kernel_rfl) (by kernel_rfl) (fun _ _ _ h => h) (by kernel_rfl) (by assumption) ?_
            simp only [Act.put, List.setIfInBounds_toArray, List.set_cons_zero, List.set_cons_succ]
            refine handSkip 8 (some 26) rfl rfl (by kernel_rfl) (by kernel_rfl) (by kernel_rfl) (fun _ _ _ h => h) (by kernel_rfl) (by assumption) ?_
            simp only [Act.put, List.setIfInBounds_toArray, List.set_cons_zero, List.set_cons_succ]
            refine handSkip 9 (some 27) rfl rfl (by kernel_rfl) (by kernel_rfl) (by kernel_rfl) (fun _ _ _ h => h) (by kernel_rfl) (by assumption) ?_
            simp only [Act.put, List.setIfInBounds_toArray, List.set_cons_zero, List.set_cons_succ]
            refine handSkip 10 (some 28) rfl rfl (by kernel_rfl) (by kernel_rfl) (by kernel_rfl) (fun _ _ _ h => h) (by kernel_rfl) (by assumption) ?_
            simp only [Act.put, List.setIfInBounds_toArray, List.set_cons_zero, List.set_cons_succ]
            refine handSkip 11 (some 29) rfl rfl (by kernel_rfl) (by kernel_rfl) (by kernel_rfl) (fun _ _ _ h => h) (by kernel_rfl) (by assumption) ?_
            simp only [Act.put, List.setIfInBounds_toArray, List.set_cons_zero, List.set_cons_succ]
            refine handSkip 12 (some 30) rfl rfl (by kernel_rfl) (by kernel_rfl) (by kernel_rfl) (fun _ _ _ h => h) (by kernel_rfl) (by assumption) ?_
            simp only [Act.put, List.setIfInBounds_toArray, List.set_cons_zero, List.set_cons_succ]
            refine handSkip 13 (some 31) rfl rfl (by kernel_rfl) (by kernel_rfl) (by kernel_rfl) (fun _ _ _ h => h) (by kernel_rfl) (by assumption) ?_
            simp only [Act.put, List.setIfInBounds_toArray, List.set_cons_zero, List.set_cons_succ]
            refine handSkip 14 (some 32) rfl rfl (by kernel_rfl) (by kernel_rfl) (by kernel_rfl) (fun _ _ _ h => h) (by kernel_rfl) (by assumption) ?_
            simp only [Act.put, List.setIfInBounds_toArray, List.set_cons_zero, List.set_cons_succ]
            refine handSkip 15 (some 33) rfl rfl (by kernel_rfl) (by kernel_rfl) (by kernel_rfl) (fun _ _ _ h => h) (by kernel_rfl) (by assumption) ?_
            simp only [Act.put, List.setIfInBounds_toArray, List.set_cons_zero, List.set_cons_succ]
            refine handSkip 16 (some 34) rfl rfl (by kernel_rfl) (by kernel_rfl) (by kernel_rfl) (fun _ _ _ h => h) (by kernel_rfl) (by assumption) ?_
            simp only [Act.put, List.setIfInBounds_toArray, List.set_cons_zero, List.set_cons_succ]
            refine handSkip 17 (some 35) rfl rfl (by kernel_rfl) (by kernel_rfl) (by kernel_rfl) (fun _ _ _ h => h) (by kernel_rfl) (by assumption) ?_
            simp only [Act.put, List.setIfInBounds_toArray, List.set_cons_zero, List.set_cons_succ]
            refine handRead 18 (some 36) (.bool true) rfl rfl (by kernel_rfl) (by kernel_rfl) (by kernel_rfl) (fun _ _ _ h => h) (by kernel_rfl) (by assumption) ?_ ?_
            · intro w hSw
              (try dsimp only at hSw)
              go_simp
            simp only [Act.put, List.setIfInBounds_toArray, List.set_cons_zero, List.set_cons_succ]
            refine wpAnyH_done (by kernel_rfl) ?_ _
            go_wp2
            go_ret
            exact ⟨ret_bool1 (HF.out.symm.trans HO.out.symm), (HS1.out.tran SA0.drew).1⟩
        · have HF : Hid (goodEd n l = true ∧ Below W.heap.size W wr) := ⟨goodEd_yes n l HJ.out.1 (by have := HJ.out.2.1; omega) fun j hj => HK.out.1 j (by omega), HK.out.2.1⟩
          have hlt' : ¬ (k : Int) < (l.length : Int) := by omega
          clear HK
          go_wp2
          go_ret
          exact ⟨ret_bool1 (HF.out.1.symm.trans HO.out.symm), HF.out.2⟩
end Go.Proofs.Ythlbmkefjjckaad
