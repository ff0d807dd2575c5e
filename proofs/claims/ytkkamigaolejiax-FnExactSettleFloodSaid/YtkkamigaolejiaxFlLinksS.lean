/-
  'l6Links' of the model.
-/
import Derived.Test.YtkkamigaolejiaxFlLinksB
namespace Go.Proofs.Ytkkamigaolejiax
open Go.RowKit
set_option linter.unusedVariables false

/-- What the model asks of links. -/
def linksS (n hi : Int) (lks : List (List Int)) : Bool := linksB (hi + 1) lks && (decide (1 ≤ n ∧ n ≤ 6) && decide (lks.length ≤ 15))
theorem linksS_no (n hi : Int) (lks : List (List Int)) (h : linksB (hi + 1) lks = false) : linksS n hi lks = false := by unfold linksS; rw [h]; rfl

set_option maxRecDepth 100000 in
set_option maxHeartbeats 4000000 in
theorem l6Links_any (W : World) (v : Value) (lks : List (List Int)) (n hi : Int) (hhi : IntKind.i64.wrap (n - 1) = hi) (h : ReadsSS W v lks) (hl : lks.length ≤ 4194304) (hin : ∀ j (hj : j < lks.length), lks[j].length ≤ 4194304) :
    Calls Try.prog 48 #[.int .i64 n, v] W fun e W' => e = .returned (.bool (linksS n hi lks)) ∧ Below W.heap.size W W' := by
  have HEND : Hid (linksB (hi + 1) lks = true → linksS n hi lks = (decide (1 ≤ n ∧ n ≤ 6) && decide (lks.length ≤ 15))) := fun h => by unfold linksS; rw [h]; rfl
  have HBADS : Hid (linksB (hi + 1) lks = false → linksS n hi lks = false) := linksS_no n hi lks
  have CN : Hid (∀ w, Calls Try.prog 51 #[.int .i64 n, .int .i64 1, .int .i64 6] w fun e W' => e = .returned (.bool (decide (1 ≤ n ∧ n ≤ 6))) ∧ W' = w) := fun w => l1In_any n 1 6 w
  obtain ⟨a1, cap1, rfl, hc1⟩ := h
  generalize linksS n hi lks = res at *
  rcases hc1 with hz | ⟨g1, o1, rfl, hg1, hc1⟩
  · subst hz
    simp only [List.length_nil] at *
    have hres := HEND.out rfl
    simp only [Nat.zero_le, decide_true, Bool.and_true] at hres
    subst hres
    by_cases hn : 1 ≤ n ∧ n ≤ 6
    · rw [decide_eq_true hn] at CN ⊢
      go_enter Try.func48, Try.ntmps48
      go_wp2
      refine wp_loop_rounds 1 ?_
      rw [rounds_succ]
      go_wp2_with fail
      refine (CN.out _).mono ?_
      rintro e w' ⟨rfl, rfl⟩
      go_wp2
      go_ret
      exact ⟨rfl, Below.refl _ _⟩
    · rw [decide_eq_false hn] at CN ⊢
      go_enter Try.func48, Try.ntmps48
      go_wp2
      refine wp_loop_rounds 1 ?_
      rw [rounds_succ]
      go_wp2_with fail
      refine (CN.out _).mono ?_
      rintro e w' ⟨rfl, rfl⟩
      go_wp2
      go_ret
      exact ⟨rfl, Below.refl _ _⟩
  · have HC1 : Hid (∀ W1, Since W.heap.size W W1 → ∀ j (hj : j < lks.length), ∃ u, W1.cell? ⟨g1, o1 + j, none⟩ = some u ∧ Reads W1 u lks[j]) := fun W1 hS j hj => by
      obtain ⟨u, h1, h2⟩ := hc1 j hj
      exact ⟨u, (hS.1.cell (p := ⟨g1, o1 + j, none⟩) hg1).trans h1, h2.below hS.1⟩
    have HS0 : Hid (Since W.heap.size W W) := Since.start W
    have HIN : Hid (∀ j (hj : j < lks.length), lks[j].length ≤ 4194304) := hin
    clear hc1 hg1 hin
    go_enter Try.func48, Try.ntmps48
    go_wp2
    go_loopw [9] (fun i wr => ∃ k : Nat, k ≤ lks.length ∧ i = .int .i64 k ∧ Hid (∀ j, j < lks.length → j < k → lkAt (hi + 1) lks j = true) ∧ Hid (Since W.heap.size W wr)) (fun i _ => lks.length - (intOf i).toNat)
    case atStart => exact ⟨0, Nat.zero_le _, rfl, fun j hj h => absurd h (Nat.not_lt_zero _), HS0⟩
    case round =>
      obtain ⟨k, hk, rfl, HA, HS⟩ := hrel
      by_cases hlt : k < lks.length
      · obtain ⟨u, hu, hr⟩ := HC1.out wr HS.out k hlt
        have hlt' : (k : Int) < (lks.length : Int) := by omega
        have HNO : Hid (okLk (hi + 1) lks[k] = false → res = false) := fun h => HBADS.out (lkAt_bad (hi + 1) lks k hlt h)
        have hlk := HIN.out k hlt
        by_cases h2 : lks[k].length = 2
        · obtain ⟨g, o, c, rfl, -, p0, p1⟩ := reads_two hr h2
          have HOK : Hid (okLk (hi + 1) lks[k] = decide ((0 ≤ at0 lks[k] ∧ at0 lks[k] < hi + 1) ∧ (0 ≤ at1 lks[k] ∧ at1 lks[k] < hi + 1) ∧ at0 lks[k] < at1 lks[k])) := by
            show _ = _
            unfold okLk
            simp only [h2, true_and]
          have HSTEP : Hid (okLk (hi + 1) lks[k] = true → (k = 0 ∨ ∃ j, k = j + 1 ∧ ∃ hj : j < lks.length, lessLk lks[j] lks[k] = true) → ∀ j, j < lks.length → j < k + 1 → lkAt (hi + 1) lks j = true) := fun h1 h3 j hj hjk => by
            by_cases e : j = k
            · subst e
              rcases h3 with e | ⟨i, e, hi', hless⟩
              · subst e; rw [lkAt_first _ lks hlt, h1]
              · subst e
                rw [lkAt_succ _ lks i hlt, h1, hless]; rfl
            · exact HA.out j hj (by omega)
          have HBAD : Hid (∀ j, k = j + 1 → ∀ hj : j < lks.length, lessLk lks[j] lks[k] = false → res = false) := fun j e hj hf => by
            subst e
            refine HBADS.out (linksB_no _ lks (j + 1) hlt ?_)
            rw [lkAt_succ _ lks j hlt, hf]
            simp
          have HLS : Hid (∀ (x y : Int), at0 lks[k] = x → at1 lks[k] = y → ∀ a, lessLk a lks[k] = decide (at0 a < x ∨ at0 a = x ∧ at1 a < y)) := fun x y hx hy a => by subst hx hy; rfl
          clear hr h2 hlk
          generalize hlv : lks[k] = lkv at *
          have HAT : Hid (∀ (x y : Int), at0 lkv = x → at1 lkv = y → okLk (hi + 1) lkv = decide ((0 ≤ x ∧ x < hi + 1) ∧ (0 ≤ y ∧ y < hi + 1) ∧ x < y)) := fun x y hx hy => by rw [HOK.out, hx, hy]
          clear HOK
          generalize hx : at0 lkv = x at *
          generalize hy : at1 lkv = y at *
          have HOK : Hid (okLk (hi + 1) lkv = decide ((0 ≤ x ∧ x < hi + 1) ∧ (0 ≤ y ∧ y < hi + 1) ∧ x < y)) := HAT.out x y rfl rfl
          have HLE : Hid (∀ a, lessLk a lkv = decide (at0 a < x ∨ at0 a = x ∧ at1 a < y)) := HLS.out x y rfl rfl
          clear HAT HLS hx hy
          have CX : Hid (∀ w, Calls Try.prog 51 #[.int .i64 x, .int .i64 0, .int .i64 hi] w fun e W' => e = .returned (.bool (decide (0 ≤ x ∧ x ≤ hi))) ∧ W' = w) := fun w => l1In_any x 0 hi w
          have CY : Hid (∀ w, Calls Try.prog 51 #[.int .i64 y, .int .i64 0, .int .i64 hi] w fun e W' => e = .returned (.bool (decide (0 ≤ y ∧ y ≤ hi))) ∧ W' = w) := fun w => l1In_any y 0 hi w
          by_cases b0 : 0 ≤ x ∧ x ≤ hi
          · rw [decide_eq_true b0] at CX
            by_cases b1 : 0 ≤ y ∧ y ≤ hi
            · rw [decide_eq_true b1] at CY
              by_cases b2 : x < y
              · have HT : Hid (okLk (hi + 1) lkv = true) := by show _ = _; rw [HOK.out]; exact decide_eq_true ⟨⟨b0.1, by omega⟩, ⟨b1.1, by omega⟩, b2⟩
                have d2 : decide (y ≤ x) = false := by simp; omega
                clear b0 b1 b2 HOK HNO
                cases k with
                | zero =>
                  have hu0 : wr.cell? ⟨g1, o1, none⟩ = some (.slice (some ⟨g, o, none⟩) 2 c) := hu
                  clear hu
                  have hlt0 : (0 : Int) < (lks.length : Int) := by omega
                  have HA1 : Hid (∀ j, j < lks.length → j < 0 + 1 → lkAt (hi + 1) lks j = true) := HSTEP.out HT.out (.inl rfl)
                  go_wp2
                  go_quiet (first | (go_at_call_of 51 x; exact Calls.quiet_of_same (CX.out _)) | (go_at_call_of 51 y; exact Calls.quiet_of_same (CY.out _)))
                  go_wp2
                  go_quiet (fail)
                  go_wp2
                  go_roundw
                  case rel => exact ⟨1, by omega, by go_num, HA1, HS.out.drewN _⟩
                  case measure => simp [intOf]; omega
                | succ i =>
                  obtain ⟨u2, hu2, hr2⟩ := HC1.out wr HS.out i (by omega)
                  have hoki : okLk (hi + 1) lks[i] = true := by
                    have := HA.out i (by omega) (by omega)
                    unfold lkAt at this
                    rw [Bool.and_eq_true, getL_at lks i (by omega)] at this
                    exact this.1
                  have hoki2 := of_decide_eq_true hoki
                  obtain ⟨g2, o2, c2, rfl, -, q0, q1⟩ := reads_two hr2 hoki2.1
                  have q3 : (i : Int) + 1 - 1 = (i : Int) := by omega
                  have q4 : IntKind.i64.wrap ((i : Int) + 1 - 1) = (i : Int) := by rw [IntKind.wrap_i64]; omega
                  have q6 : (0 : Int) < (i : Int) + 1 := by omega
                  have q5 : decide ((0 : Int) < (i : Int) + 1) = true := decide_eq_true q6
                  have q7 : (i : Int) < (lks.length : Int) := by omega
                  have HYES : Hid (lessLk lks[i] lkv = true → ∀ j, j < lks.length → j < i + 1 + 1 → lkAt (hi + 1) lks j = true) := fun h => HSTEP.out HT.out (.inr ⟨i, rfl, by omega, h⟩)
                  have HNOT : Hid (lessLk lks[i] lkv = false → res = false) := HBAD.out i rfl (by omega)
                  have HLI : Hid (lessLk lks[i] lkv = decide (at0 lks[i] < x ∨ at0 lks[i] = x ∧ at1 lks[i] < y)) := HLE.out lks[i]
                  clear hr2 hoki hoki2 HSTEP HBAD HLE
                  generalize lessLk lks[i] lkv = ll at *
                  generalize at0 lks[i] = px at *
                  generalize at1 lks[i] = py at *
                  by_cases c1 : x < px
                  · have d3 : decide (x < px) = true := decide_eq_true c1
                    have HF : Hid (res = false) := HNOT.out (by rw [HLI.out]; exact decide_eq_false (by omega))
                    clear HYES HNOT HLI c1
                    go_wp2
                    go_quiet (first | (go_at_call_of 51 x; exact Calls.quiet_of_same (CX.out _)) | (go_at_call_of 51 y; exact Calls.quiet_of_same (CY.out _)))
                    go_wp2
                    go_quiet (fail)
                    go_wp2
                    go_ret
                    exact ⟨ret_bool HF.out.symm, ((HS.out.drewN _).drewN _).1⟩
                  · have d3 : decide (x < px) = false := decide_eq_false c1
                    by_cases c2' : px = x
                    · have d4 : (px == x) = true := beq_iff_eq.2 c2'
                      by_cases c3 : y ≤ py
                      · have d5 : decide (y ≤ py) = true := decide_eq_true c3
                        have HF : Hid (res = false) := HNOT.out (by rw [HLI.out]; exact decide_eq_false (by omega))
                        clear HYES HNOT HLI c1 c2' c3
                        go_wp2
                        go_quiet (first | (go_at_call_of 51 x; exact Calls.quiet_of_same (CX.out _)) | (go_at_call_of 51 y; exact Calls.quiet_of_same (CY.out _)))
                        go_wp2
                        go_quiet (fail)
                        go_wp2
                        go_ret
                        exact ⟨ret_bool HF.out.symm, ((HS.out.drewN _).drewN _).1⟩
                      · have d5 : decide (y ≤ py) = false := decide_eq_false c3
                        have HA1 : Hid (∀ j, j < lks.length → j < i + 1 + 1 → lkAt (hi + 1) lks j = true) := HYES.out (by rw [HLI.out]; exact decide_eq_true (by omega))
                        clear HYES HNOT HLI c1 c2' c3
                        go_wp2
                        go_quiet (first | (go_at_call_of 51 x; exact Calls.quiet_of_same (CX.out _)) | (go_at_call_of 51 y; exact Calls.quiet_of_same (CY.out _)))
                        go_wp2
                        go_quiet (fail)
                        go_wp2
                        go_roundw
                        case rel => exact ⟨i + 1 + 1, by omega, by go_num, HA1, HS.out.drewN _⟩
                        case measure => simp [intOf]; omega
                    · have d4 : (px == x) = false := beq_eq_false_iff_ne.2 c2'
                      have HA1 : Hid (∀ j, j < lks.length → j < i + 1 + 1 → lkAt (hi + 1) lks j = true) := HYES.out (by rw [HLI.out]; exact decide_eq_true (by omega))
                      clear HYES HNOT HLI c1 c2'
                      go_wp2
                      go_quiet (first | (go_at_call_of 51 x; exact Calls.quiet_of_same (CX.out _)) | (go_at_call_of 51 y; exact Calls.quiet_of_same (CY.out _)))
                      go_wp2
                      go_quiet (fail)
                      go_wp2
                      go_roundw
                      case rel => exact ⟨i + 1 + 1, by omega, by go_num, HA1, HS.out.drewN _⟩
                      case measure => simp [intOf]; omega
              · have HF : Hid (res = false) := HNO.out (by rw [HOK.out]; exact decide_eq_false (fun h => b2 h.2.2))
                have d2 : decide (y ≤ x) = true := by simp; omega
                clear b0 b1 b2 HOK HNO HSTEP HBAD HLE
                go_wp2
                go_quiet (first | (go_at_call_of 51 x; exact Calls.quiet_of_same (CX.out _)) | (go_at_call_of 51 y; exact Calls.quiet_of_same (CY.out _)))
                go_wp2
                go_ret
                exact ⟨ret_bool HF.out.symm, (HS.out.drewN _).1⟩
            · rw [decide_eq_false b1] at CY
              have HF : Hid (res = false) := HNO.out (by rw [HOK.out]; exact decide_eq_false (fun h => b1 ⟨h.2.1.1, by omega⟩))
              clear b0 b1 HOK HNO HSTEP HBAD HLE
              go_wp2
              go_quiet (first | (go_at_call_of 51 x; exact Calls.quiet_of_same (CX.out _)) | (go_at_call_of 51 y; exact Calls.quiet_of_same (CY.out _)))
              go_wp2
              go_ret
              exact ⟨ret_bool HF.out.symm, (HS.out.drewN _).1⟩
          · rw [decide_eq_false b0] at CX
            have HF : Hid (res = false) := HNO.out (by rw [HOK.out]; exact decide_eq_false (fun h => b0 ⟨h.1.1, by omega⟩))
            clear b0 HOK HNO HSTEP HBAD HLE
            go_wp2
            go_quiet (first | (go_at_call_of 51 x; exact Calls.quiet_of_same (CX.out _)) | (go_at_call_of 51 y; exact Calls.quiet_of_same (CY.out _)))
            go_wp2
            go_ret
            exact ⟨ret_bool HF.out.symm, (HS.out.drewN _).1⟩
        · have HF : Hid (res = false) := HNO.out (okLk_no2 _ _ h2)
          obtain ⟨av, cv, rfl⟩ := hr.shape
          have d0 : ((lks[k].length : Int) != 2) = true := bne_iff_ne.2 (by omega)
          generalize lks[k].length = nn at *
          clear hr h2 HNO
          go_wp2
          go_quiet (fail)
          go_wp2
          go_ret
          exact ⟨ret_bool HF.out.symm, (HS.out.drewN _).1⟩
      · have hlb : linksB (hi + 1) lks = true := linksB_yes _ lks fun j hj => HA.out j hj (by omega)
        have HF : Hid (res = (decide (1 ≤ n ∧ n ≤ 6) && decide (lks.length ≤ 15))) := HEND.out hlb
        have q2 : ¬ (k : Int) < (lks.length : Int) := by omega
        clear hlb HBADS HEND
        by_cases hn : 1 ≤ n ∧ n ≤ 6
        · rw [decide_eq_true hn] at CN HF
          by_cases h15 : lks.length ≤ 15
          · have d15 : (lks.length : Int) ≤ 15 := by omega
            rw [decide_eq_true h15] at HF
            go_wp2_with fail
            refine (CN.out _).mono ?_
            rintro e w' ⟨rfl, rfl⟩
            go_wp2
            go_ret
            exact ⟨ret_bool HF.out.symm, HS.out.1⟩
          · have d15 : decide ((lks.length : Int) ≤ 15) = false := decide_eq_false (by omega)
            rw [decide_eq_false h15] at HF
            go_wp2_with fail
            refine (CN.out _).mono ?_
            rintro e w' ⟨rfl, rfl⟩
            go_wp2
            go_ret
            exact ⟨ret_bool HF.out.symm, HS.out.1⟩
        · rw [decide_eq_false hn] at CN HF
          go_wp2_with fail
          refine (CN.out _).mono ?_
          rintro e w' ⟨rfl, rfl⟩
          go_wp2
          go_ret
          exact ⟨ret_bool HF.out.symm, HS.out.1⟩
end Go.Proofs.Ytkkamigaolejiax
