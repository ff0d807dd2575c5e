/-
  'areLinks' of the program.
-/
import Derived.Test.YtkkamigaolejiaxFlLinks
import Derived.Deep.QuietTactic
import Derived.Deep.RegionWith
namespace Go.Proofs.Ytkkamigaolejiax
open Go.RowKit
set_option linter.unusedVariables false

theorem lkAt_first (n : Int) (lks : List (List Int)) (h : 0 < lks.length) : lkAt n lks 0 = okLk n lks[0] := by
  unfold lkAt
  rw [getL_at lks 0 h]
  simp
theorem lkAt_succ (n : Int) (lks : List (List Int)) (j : Nat) (h : j + 1 < lks.length) : lkAt n lks (j + 1) = (okLk n lks[j + 1] && lessLk lks[j] lks[j + 1]) := by
  unfold lkAt
  rw [getL_at lks (j + 1) h, Nat.add_sub_cancel, getL_at lks j (by omega)]
  simp
theorem lkAt_bad (n : Int) (lks : List (List Int)) (k : Nat) (h : k < lks.length) (hf : okLk n lks[k] = false) : linksB n lks = false := by
  refine linksB_no n lks k h ?_
  unfold lkAt
  rw [getL_at lks k h, hf]
  rfl
theorem okLk_no2 (n : Int) (l : List Int) (h : l.length ≠ 2) : okLk n l = false := decide_eq_false (fun e => h e.1)

set_option maxRecDepth 100000 in
set_option maxHeartbeats 4000000 in
theorem areLinks_any (W : World) (v : Value) (lks : List (List Int)) (n : Int) (h : ReadsSS W v lks) (hl : lks.length ≤ 4194304) (hin : ∀ j (hj : j < lks.length), lks[j].length ≤ 4194304) :
    Calls Try.prog 57 #[.int .i64 n, v] W fun e W' => e = .returned (.bool (linksB n lks)) ∧ Below W.heap.size W W' := by
  obtain ⟨a1, cap1, rfl, hc1⟩ := h
  rcases hc1 with hz | ⟨g1, o1, rfl, hg1, hc1⟩
  · subst hz
    simp only [List.length_nil]
    go_enter Try.func57, Try.ntmps57
    go_wp2
    refine wp_loop_rounds 1 ?_
    rw [rounds_succ]
    go_wp2
    go_ret
    exact ⟨rfl, Below.refl _ _⟩
  · have HC1 : Hid (∀ W1, Since W.heap.size W W1 → ∀ j (hj : j < lks.length), ∃ u, W1.cell? ⟨g1, o1 + j, none⟩ = some u ∧ Reads W1 u lks[j]) := fun W1 hS j hj => by
      obtain ⟨u, h1, h2⟩ := hc1 j hj
      exact ⟨u, (hS.1.cell (p := ⟨g1, o1 + j, none⟩) hg1).trans h1, h2.below hS.1⟩
    have HS0 : Hid (Since W.heap.size W W) := Since.start W
    have HIN : Hid (∀ j (hj : j < lks.length), lks[j].length ≤ 4194304) := hin
    clear hc1 hg1 hin
    go_enter Try.func57, Try.ntmps57
    go_wp2
    go_loopw [9] (fun i wr => ∃ k : Nat, k ≤ lks.length ∧ i = .int .i64 k ∧ Hid (∀ j, j < lks.length → j < k → lkAt n lks j = true) ∧ Hid (Since W.heap.size W wr)) (fun i _ => lks.length - (intOf i).toNat)
    case atStart => exact ⟨0, Nat.zero_le _, rfl, fun j hj h => absurd h (Nat.not_lt_zero _), HS0⟩
    case round =>
      obtain ⟨k, hk, rfl, HA, HS⟩ := hrel
      by_cases hlt : k < lks.length
      · obtain ⟨u, hu, hr⟩ := HC1.out wr HS.out k hlt
        have hlt' : (k : Int) < (lks.length : Int) := by omega
        have HNO : Hid (okLk n lks[k] = false → linksB n lks = false) := lkAt_bad n lks k hlt
        have hlk := HIN.out k hlt
        by_cases h2 : lks[k].length = 2
        · obtain ⟨g, o, c, rfl, -, p0, p1⟩ := reads_two hr h2
          have HRK : Hid (Reads wr (.slice (some ⟨g, o, none⟩) 2 c) lks[k]) := hr
          have HL2 : Hid (lks[k].length = 2) := h2
          have HOK : Hid (okLk n lks[k] = decide ((0 ≤ at0 lks[k] ∧ at0 lks[k] < n) ∧ (0 ≤ at1 lks[k] ∧ at1 lks[k] < n) ∧ at0 lks[k] < at1 lks[k])) := by
            show _ = _
            unfold okLk
            simp only [h2, true_and]
          have HSTEP : Hid (okLk n lks[k] = true → (k = 0 ∨ ∃ j, k = j + 1 ∧ ∃ hj : j < lks.length, lessLk lks[j] lks[k] = true) → ∀ j, j < lks.length → j < k + 1 → lkAt n lks j = true) := fun h1 h3 j hj hjk => by
            by_cases e : j = k
            · subst e
              rcases h3 with e | ⟨i, e, hi, hless⟩
              · subst e; rw [lkAt_first n lks hlt, h1]
              · subst e
                rw [lkAt_succ n lks i hlt, h1, hless]; rfl
            · exact HA.out j hj (by omega)
          have HBAD : Hid (∀ j, k = j + 1 → ∀ hj : j < lks.length, lessLk lks[j] lks[k] = false → linksB n lks = false) := fun j e hj hf => by
            subst e
            refine linksB_no n lks (j + 1) hlt ?_
            rw [lkAt_succ n lks j hlt, hf]
            simp
          clear hr h2 hlk
          generalize hlv : lks[k] = lkv at *
          have HAT : Hid (∀ (x y : Int), at0 lkv = x → at1 lkv = y → okLk n lkv = decide ((0 ≤ x ∧ x < n) ∧ (0 ≤ y ∧ y < n) ∧ x < y)) := fun x y hx hy => by rw [HOK.out, hx, hy]
          clear HOK
          generalize hx : at0 lkv = x at *
          generalize hy : at1 lkv = y at *
          have HOK : Hid (okLk n lkv = decide ((0 ≤ x ∧ x < n) ∧ (0 ≤ y ∧ y < n) ∧ x < y)) := HAT.out x y rfl rfl
          clear HAT hx hy
          have CX : Hid (∀ w, Calls Try.prog 61 #[.int .i64 x, .int .i64 n] w fun e W' => e = .returned (.bool (decide (0 ≤ x ∧ x < n))) ∧ W' = w) := fun w => isNode_any w x n
          have CY : Hid (∀ w, Calls Try.prog 61 #[.int .i64 y, .int .i64 n] w fun e W' => e = .returned (.bool (decide (0 ≤ y ∧ y < n))) ∧ W' = w) := fun w => isNode_any w y n
          by_cases b0 : 0 ≤ x ∧ x < n
          · rw [decide_eq_true b0] at CX
            by_cases b1 : 0 ≤ y ∧ y < n
            · rw [decide_eq_true b1] at CY
              by_cases b2 : x < y
              · have HT : Hid (okLk n lkv = true) := by show _ = _; rw [HOK.out]; exact decide_eq_true ⟨b0, b1, b2⟩
                have d2 : decide (y ≤ x) = false := by simp; omega
                clear b0 b1 b2 HOK HNO
                cases k with
                | zero =>
                  have hu0 : wr.cell? ⟨g1, o1, none⟩ = some (.slice (some ⟨g, o, none⟩) 2 c) := hu
                  clear hu
                  have hlt0 : (0 : Int) < (lks.length : Int) := by omega
                  have HA1 : Hid (∀ j, j < lks.length → j < 0 + 1 → lkAt n lks j = true) := HSTEP.out HT.out (.inl rfl)
                  go_wp2
                  go_quiet (first | (go_at_call_of 61 x; exact Calls.quiet_of_same (CX.out _)) | (go_at_call_of 61 y; exact Calls.quiet_of_same (CY.out _)))
                  go_wp2
                  go_roundw
                  case rel => exact ⟨1, by omega, by go_num, HA1, HS.out.drewN _⟩
                  case measure => simp [intOf]; omega
                | succ i =>
                  obtain ⟨u2, hu2, hr2⟩ := HC1.out wr HS.out i (by omega)
                  have hoki : okLk n lks[i] = true := by
                    have := HA.out i (by omega) (by omega)
                    unfold lkAt at this
                    rw [Bool.and_eq_true, getL_at lks i (by omega)] at this
                    exact this.1
                  have hoki2 := of_decide_eq_true hoki
                  have HL3 : Hid (lks[i].length = 2) := hoki2.1
                  obtain ⟨g2, o2, c2, rfl, -, q0, q1⟩ := reads_two hr2 HL3.out
                  have HR2 : Hid (Reads wr (.slice (some ⟨g2, o2, none⟩) 2 c2) lks[i]) := hr2
                  clear hoki hoki2 q0 q1
                  have CC : Hid (∀ m, Calls Try.prog 76 #[.slice (some ⟨g2, o2, none⟩) 2 c2, .slice (some ⟨g, o, none⟩) 2 c] (wr.drewN m) fun e W' => e = .returned (.int .i64 (cmpL lks[i] lkv)) ∧ W' = wr.drewN m) := fun m => cmpL_any _ _ _ lks[i] lkv (HR2.out.below (below_drewN (Below.refl _ _) m)) (HRK.out.below (below_drewN (Below.refl _ _) m)) HL3.out HL2.out
                  have q3 : (i : Int) + 1 - 1 = (i : Int) := by omega
                  have q4 : IntKind.i64.wrap ((i : Int) + 1 - 1) = (i : Int) := by rw [IntKind.wrap_i64]; omega
                  have q6 : (0 : Int) < (i : Int) + 1 := by omega
                  have q5 : decide ((0 : Int) < (i : Int) + 1) = true := decide_eq_true q6
                  have q7 : (i : Int) < (lks.length : Int) := by omega
                  have hcl := cmpL_less lks[i] lkv
                  cases hls : lessLk lks[i] lkv with
                  | true =>
                    rw [hls] at hcl
                    have HA1 : Hid (∀ j, j < lks.length → j < i + 1 + 1 → lkAt n lks j = true) := HSTEP.out HT.out (.inr ⟨i, rfl, by omega, hls⟩)
                    generalize cmpL lks[i] lkv = cc at *
                    simp only [Bool.not_true] at hcl
                    clear hr2 hls HSTEP HBAD
                    go_wp2
                    go_quiet (first | (go_at_call_of 61 x; exact Calls.quiet_of_same (CX.out _)) | (go_at_call_of 61 y; exact Calls.quiet_of_same (CY.out _)))
                    go_wp2_with fail
                    refine (CC.out _).mono ?_
                    rintro e w' ⟨rfl, rfl⟩
                    go_wp2
                    go_roundw
                    case rel => exact ⟨i + 1 + 1, by omega, by go_num, HA1, HS.out.drewN _⟩
                    case measure => simp [intOf]; omega
                  | false =>
                    rw [hls] at hcl
                    have HF : Hid (linksB n lks = false) := HBAD.out i rfl (by omega) hls
                    generalize cmpL lks[i] lkv = cc at *
                    simp only [Bool.not_false] at hcl
                    clear hr2 hls HSTEP HBAD
                    go_wp2
                    go_quiet (first | (go_at_call_of 61 x; exact Calls.quiet_of_same (CX.out _)) | (go_at_call_of 61 y; exact Calls.quiet_of_same (CY.out _)))
                    go_wp2_with fail
                    refine (CC.out _).mono ?_
                    rintro e w' ⟨rfl, rfl⟩
                    go_wp2
                    go_ret
                    exact ⟨ret_bool HF.out.symm, (HS.out.drewN _).1⟩
              · have HF : Hid (linksB n lks = false) := HNO.out (by rw [HOK.out]; exact decide_eq_false (fun h => b2 h.2.2))
                have d2 : decide (y ≤ x) = true := by simp; omega
                clear b0 b1 b2 HOK HNO HSTEP HBAD
                go_wp2
                go_quiet (first | (go_at_call_of 61 x; exact Calls.quiet_of_same (CX.out _)) | (go_at_call_of 61 y; exact Calls.quiet_of_same (CY.out _)))
                go_wp2
                go_ret
                exact ⟨ret_bool HF.out.symm, (HS.out.drewN _).1⟩
            · rw [decide_eq_false b1] at CY
              have HF : Hid (linksB n lks = false) := HNO.out (by rw [HOK.out]; exact decide_eq_false (fun h => b1 h.2.1))
              clear b0 b1 HOK HNO HSTEP HBAD
              go_wp2
              go_quiet (first | (go_at_call_of 61 x; exact Calls.quiet_of_same (CX.out _)) | (go_at_call_of 61 y; exact Calls.quiet_of_same (CY.out _)))
              go_wp2
              go_ret
              exact ⟨ret_bool HF.out.symm, (HS.out.drewN _).1⟩
          · rw [decide_eq_false b0] at CX
            have HF : Hid (linksB n lks = false) := HNO.out (by rw [HOK.out]; exact decide_eq_false (fun h => b0 h.1))
            clear b0 HOK HNO HSTEP HBAD
            go_wp2
            go_quiet (first | (go_at_call_of 61 x; exact Calls.quiet_of_same (CX.out _)) | (go_at_call_of 61 y; exact Calls.quiet_of_same (CY.out _)))
            go_wp2
            go_ret
            exact ⟨ret_bool HF.out.symm, (HS.out.drewN _).1⟩
        · have HF : Hid (linksB n lks = false) := HNO.out (okLk_no2 n _ h2)
          obtain ⟨av, cv, rfl⟩ := hr.shape
          have d0 : ((lks[k].length : Int) != 2) = true := bne_iff_ne.2 (by omega)
          generalize lks[k].length = nn at *
          clear hr h2 HNO
          go_wp2
          go_quiet (fail)
          go_wp2
          go_ret
          exact ⟨ret_bool HF.out.symm, (HS.out.drewN _).1⟩
      · have HF : Hid (linksB n lks = true) := linksB_yes n lks fun j hj => HA.out j hj (by omega)
        have q2 : ¬ (k : Int) < (lks.length : Int) := by omega
        go_wp2
        go_ret
        exact ⟨ret_bool HF.out.symm, HS.out.1⟩
end Go.Proofs.Ytkkamigaolejiax
