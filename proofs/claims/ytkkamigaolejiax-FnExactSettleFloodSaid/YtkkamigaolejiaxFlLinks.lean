/-
  Links: 'isNode', 'slices.Compare', 'areJoined', 'areLinks' of the program, 'l6Links' of the model.
-/
import Derived.Test.YtkkamigaolejiaxFlMath
import Derived.Test.YtkkamigaolejiaxRowSS
import Derived.BigQuiet
namespace Go.Proofs.Ytkkamigaolejiax
open Go.RowKit
set_option linter.unusedVariables false

theorem isNode_any (W : World) (n m : Int) : Calls Try.prog 61 #[.int .i64 n, .int .i64 m] W fun e W' => e = .returned (.bool (decide (0 ≤ n ∧ n < m))) ∧ W' = W := by
  by_cases h1 : 0 ≤ n
  · have d1 : decide (0 ≤ n) = true := by simp; omega
    by_cases h2 : n < m
    · have d2 : decide (n < m) = true := by simp; omega
      have e : decide (0 ≤ n ∧ n < m) = true := by simp; omega
      rw [e]; clear e
      go_enter Try.func61, Try.ntmps61
      go_wp2
      go_ret
      exact ⟨rfl, rfl⟩
    · have d2 : decide (n < m) = false := by simp; omega
      have e : decide (0 ≤ n ∧ n < m) = false := by simp; omega
      rw [e]; clear e
      go_enter Try.func61, Try.ntmps61
      go_wp2
      go_ret
      exact ⟨rfl, rfl⟩
  · have d1 : decide (0 ≤ n) = false := by simp; omega
    have e : decide (0 ≤ n ∧ n < m) = false := by simp; omega
    rw [e]; clear e
    go_enter Try.func61, Try.ntmps61
    go_wp2
    go_ret
    exact ⟨rfl, rfl⟩

def cmpI (x y : Int) : Int := if x < y then -1 else if y < x then 1 else 0
theorem cmpI_any (W : World) (x y : Int) : Calls Try.prog 86 #[.int .i64 x, .int .i64 y] W fun e W' => e = .returned (.int .i64 (cmpI x y)) ∧ W' = W := by
  by_cases h1 : x < y
  · have e : cmpI x y = -1 := by unfold cmpI; rw [if_pos h1]
    rw [e]; clear e
    go_enter Try.func86, Try.ntmps86
    go_wp2
    go_ret
    exact ⟨rfl, rfl⟩
  · by_cases h2 : y < x
    · have e : cmpI x y = 1 := by unfold cmpI; rw [if_neg h1, if_pos h2]
      rw [e]; clear e
      go_enter Try.func86, Try.ntmps86
      go_wp2
      go_ret
      exact ⟨rfl, rfl⟩
    · have e : cmpI x y = 0 := by unfold cmpI; rw [if_neg h1, if_neg h2]
      rw [e]; clear e
      go_enter Try.func86, Try.ntmps86
      go_wp2
      go_ret
      exact ⟨rfl, rfl⟩

theorem reads_two {W : World} {u : Value} {l : List Int} (h : Reads W u l) (hl : l.length = 2) : ∃ g o c, u = .slice (some ⟨g, o, none⟩) 2 c ∧ g < W.heap.size ∧ W.cell? ⟨g, o, none⟩ = some (.int .i64 (at0 l)) ∧ W.cell? ⟨g, o + 1, none⟩ = some (.int .i64 (at1 l)) := by
  obtain ⟨a, c, rfl, hc⟩ := h
  rcases hc with rfl | ⟨g, o, rfl, hg, hc⟩
  · simp at hl
  · have c0 := hc 0 (by omega)
    have c1 := hc 1 (by omega)
    rw [← at0_of l (by omega)] at c0
    rw [← at1_of l (by omega)] at c1
    exact ⟨g, o, c, by rw [hl], hg, c0, c1⟩

def cmpL (a b : List Int) : Int := if cmpI (at0 a) (at0 b) = 0 then cmpI (at1 a) (at1 b) else cmpI (at0 a) (at0 b)
theorem cmpL_less (a b : List Int) : decide (0 ≤ cmpL a b) = !lessLk a b := by
  unfold cmpL cmpI lessLk
  by_cases h1 : at0 a < at0 b
  · simp [h1]
  · by_cases h2 : at0 b < at0 a
    · have : ¬ at0 a = at0 b := by omega
      simp [h1, h2, this]
    · have e : at0 a = at0 b := by omega
      by_cases h3 : at1 a < at1 b
      · simp [e, h3]
      · by_cases h4 : at1 b < at1 a
        · simp [e, h3, h4]
        · simp [e, h3, h4]

set_option maxRecDepth 100000 in
set_option maxHeartbeats 2000000 in
theorem cmpL_any (W : World) (v1 v2 : Value) (a b : List Int) (h1 : Reads W v1 a) (h2 : Reads W v2 b) (la : a.length = 2) (lb : b.length = 2) :
    Calls Try.prog 76 #[v1, v2] W fun e W' => e = .returned (.int .i64 (cmpL a b)) ∧ W' = W := by
  obtain ⟨g1, o1, c1, rfl, -, p0, p1⟩ := reads_two h1 la
  obtain ⟨g2, o2, c2, rfl, -, q0, q1⟩ := reads_two h2 lb
  have HE : Hid (cmpL a b = if cmpI (at0 a) (at0 b) = 0 then cmpI (at1 a) (at1 b) else cmpI (at0 a) (at0 b)) := rfl
  rw [HE.out]
  clear h1 h2 la lb HE
  generalize at0 a = x0 at *
  generalize at1 a = x1 at *
  generalize at0 b = y0 at *
  generalize at1 b = y1 at *
  have C0 := cmpI_any W x0 y0
  have C1 := cmpI_any W x1 y1
  generalize cmpI x0 y0 = z0 at *
  generalize cmpI x1 y1 = z1 at *
  have HC0 : Hid (Calls Try.prog 86 #[.int .i64 x0, .int .i64 y0] W fun e W' => e = .returned (.int .i64 z0) ∧ W' = W) := C0
  have HC1 : Hid (Calls Try.prog 86 #[.int .i64 x1, .int .i64 y1] W fun e W' => e = .returned (.int .i64 z1) ∧ W' = W) := C1
  clear C0 C1
  by_cases hz0 : z0 = 0
  · rw [if_pos hz0]
    have d0 : (z0 == 0) = true := beq_iff_eq.2 hz0
    clear hz0
    by_cases hz1 : z1 = 0
    · have d1 : (z1 == 0) = true := beq_iff_eq.2 hz1
      have HZ : Hid (z1 = 0) := hz1
      clear hz1
      go_enter Try.func76, Try.ntmps76
      go_wp2
      refine wp_loop_rounds 3 ?_
      rw [rounds_succ]
      go_wp2_with fail
      refine HC0.out.mono ?_
      rintro e w' ⟨rfl, rfl⟩
      go_wp2
      rw [rounds_succ]
      go_wp2_with fail
      refine HC1.out.mono ?_
      rintro e w' ⟨rfl, rfl⟩
      go_wp2
      rw [rounds_succ]
      go_wp2
      go_ret
      exact ⟨by rw [HZ.out]; rfl, rfl⟩
    · have d1 : (z1 == 0) = false := beq_eq_false_iff_ne.2 hz1
      clear hz1
      go_enter Try.func76, Try.ntmps76
      go_wp2
      refine wp_loop_rounds 3 ?_
      rw [rounds_succ]
      go_wp2_with fail
      refine HC0.out.mono ?_
      rintro e w' ⟨rfl, rfl⟩
      go_wp2
      rw [rounds_succ]
      go_wp2_with fail
      refine HC1.out.mono ?_
      rintro e w' ⟨rfl, rfl⟩
      go_wp2
      go_ret
      exact ⟨rfl, rfl⟩
  · rw [if_neg hz0]
    have d0 : (z0 == 0) = false := beq_eq_false_iff_ne.2 hz0
    clear hz0
    go_enter Try.func76, Try.ntmps76
    go_wp2
    refine wp_loop_rounds 3 ?_
    rw [rounds_succ]
    go_wp2_with fail
    refine HC0.out.mono ?_
    rintro e w' ⟨rfl, rfl⟩
    go_wp2
    go_ret
    exact ⟨rfl, rfl⟩

set_option maxRecDepth 100000 in
set_option maxHeartbeats 2000000 in
theorem areJoined_any (W : World) (v : Value) (lks : List (List Int)) (a b : Int) (h : ReadsSS W v lks) (h2 : ∀ j (hj : j < lks.length), lks[j].length = 2) (hl : lks.length ≤ 4194304) :
    Calls Try.prog 77 #[v, .int .i64 a, .int .i64 b] W fun e W' => e = .returned (.bool (joinedB lks a b)) ∧ W' = W := by
  obtain ⟨a1, cap1, rfl, hc1⟩ := h
  rcases hc1 with hz | ⟨g1, o1, rfl, hg1, hc1⟩
  · subst hz
    simp only [List.length_nil]
    go_enter Try.func77, Try.ntmps77
    go_wp2
    refine wp_loop_rounds 1 ?_
    rw [rounds_succ]
    go_wp2
    go_ret
    exact ⟨rfl, rfl⟩
  · have HC1 : Hid (∀ j (hj : j < lks.length), ∃ u, W.cell? ⟨g1, o1 + j, none⟩ = some u ∧ Reads W u lks[j]) := hc1
    have H2 : Hid (∀ j (hj : j < lks.length), lks[j].length = 2) := h2
    clear hc1 h2 hg1
    go_enter Try.func77, Try.ntmps77
    go_wp2
    go_loop [11] (fun i => ∃ k : Nat, k ≤ lks.length ∧ i = .int .i64 k ∧ Hid (∀ j (hj : j < lks.length), j < k → joinsL a b lks[j] = false)) (fun i => lks.length - (intOf i).toNat)
    case atStart => exact ⟨0, Nat.zero_le _, rfl, fun j hj h => absurd h (Nat.not_lt_zero _)⟩
    case round =>
      obtain ⟨k, hk, rfl, HA⟩ := hrel
      by_cases hlt : k < lks.length
      · obtain ⟨u, hu, hr⟩ := HC1.out k hlt
        obtain ⟨g, o, c, rfl, -, p0, p1⟩ := reads_two hr (H2.out k hlt)
        have hlt' : (k : Int) < (lks.length : Int) := by omega
        have HY : Hid (joinsL a b lks[k] = true → joinedB lks a b = true) := joinedB_hit lks a b k hlt
        have HN : Hid (joinsL a b lks[k] = false → ∀ j (hj : j < lks.length), j < k + 1 → joinsL a b lks[j] = false) := fun hf j hj h => by
          by_cases e : j = k
          · subst e; exact hf
          · exact HA.out j hj (by omega)
        have HD : Hid (joinsL a b lks[k] = decide (at0 lks[k] = min a b ∧ at1 lks[k] = max a b)) := rfl
        clear hr
        generalize joinsL a b lks[k] = jj at *
        generalize at0 lks[k] = x at *
        generalize at1 lks[k] = y at *
        rcases Int.lt_trichotomy a b with hab | hab | hab
        · have hba : ¬ b < a := by omega
          by_cases e0 : x = a
          · by_cases e1 : y = b
            · have HF : Hid (joinedB lks a b = true) := HY.out (by rw [HD.out]; exact decide_eq_true (by omega))
              have d0 : (x == a) = true := beq_iff_eq.2 e0
              have d1 : (y == b) = true := beq_iff_eq.2 e1
              clear e0 e1 HY HN HD
              go_wp2
              go_ret
              exact ⟨ret_bool HF.out.symm, rfl⟩
            · have HA1 : Hid (∀ j (hj : j < lks.length), j < k + 1 → joinsL a b lks[j] = false) := HN.out (by rw [HD.out]; exact decide_eq_false (by omega))
              have d0 : (x == a) = true := beq_iff_eq.2 e0
              have d1 : (y == b) = false := beq_eq_false_iff_ne.2 e1
              clear e0 e1 HY HN HD
              go_wp2
              go_round
              case rel => exact ⟨k + 1, by omega, by go_num, HA1⟩
              case measure => simp [intOf]; omega
          · have HA1 : Hid (∀ j (hj : j < lks.length), j < k + 1 → joinsL a b lks[j] = false) := HN.out (by rw [HD.out]; exact decide_eq_false (by omega))
            have d0 : (x == a) = false := beq_eq_false_iff_ne.2 e0
            clear e0 HY HN HD
            go_wp2
            go_round
            case rel => exact ⟨k + 1, by omega, by go_num, HA1⟩
            case measure => simp [intOf]; omega
        · subst hab
          have hba : ¬ a < a := by omega
          by_cases e0 : x = a
          · by_cases e1 : y = a
            · have HF : Hid (joinedB lks a a = true) := HY.out (by rw [HD.out]; exact decide_eq_true (by omega))
              have d0 : (x == a) = true := beq_iff_eq.2 e0
              have d1 : (y == a) = true := beq_iff_eq.2 e1
              clear e0 e1 HY HN HD
              go_wp2
              go_ret
              exact ⟨ret_bool HF.out.symm, rfl⟩
            · have HA1 : Hid (∀ j (hj : j < lks.length), j < k + 1 → joinsL a a lks[j] = false) := HN.out (by rw [HD.out]; exact decide_eq_false (by omega))
              have d0 : (x == a) = true := beq_iff_eq.2 e0
              have d1 : (y == a) = false := beq_eq_false_iff_ne.2 e1
              clear e0 e1 HY HN HD
              go_wp2
              go_round
              case rel => exact ⟨k + 1, by omega, by go_num, HA1⟩
              case measure => simp [intOf]; omega
          · have HA1 : Hid (∀ j (hj : j < lks.length), j < k + 1 → joinsL a a lks[j] = false) := HN.out (by rw [HD.out]; exact decide_eq_false (by omega))
            have d0 : (x == a) = false := beq_eq_false_iff_ne.2 e0
            clear e0 HY HN HD
            go_wp2
            go_round
            case rel => exact ⟨k + 1, by omega, by go_num, HA1⟩
            case measure => simp [intOf]; omega
        · have hba : ¬ a < b := by omega
          by_cases e0 : x = b
          · by_cases e1 : y = a
            · have HF : Hid (joinedB lks a b = true) := HY.out (by rw [HD.out]; exact decide_eq_true (by omega))
              have d0 : (x == b) = true := beq_iff_eq.2 e0
              have d1 : (y == a) = true := beq_iff_eq.2 e1
              clear e0 e1 HY HN HD
              go_wp2
              go_ret
              exact ⟨ret_bool HF.out.symm, rfl⟩
            · have HA1 : Hid (∀ j (hj : j < lks.length), j < k + 1 → joinsL a b lks[j] = false) := HN.out (by rw [HD.out]; exact decide_eq_false (by omega))
              have d0 : (x == b) = true := beq_iff_eq.2 e0
              have d1 : (y == a) = false := beq_eq_false_iff_ne.2 e1
              clear e0 e1 HY HN HD
              go_wp2
              go_round
              case rel => exact ⟨k + 1, by omega, by go_num, HA1⟩
              case measure => simp [intOf]; omega
          · have HA1 : Hid (∀ j (hj : j < lks.length), j < k + 1 → joinsL a b lks[j] = false) := HN.out (by rw [HD.out]; exact decide_eq_false (by omega))
            have d0 : (x == b) = false := beq_eq_false_iff_ne.2 e0
            clear e0 HY HN HD
            go_wp2
            go_round
            case rel => exact ⟨k + 1, by omega, by go_num, HA1⟩
            case measure => simp [intOf]; omega
      · have hlt' : ¬ (k : Int) < (lks.length : Int) := by omega
        have HF : Hid (joinedB lks a b = false) := joinedB_none lks a b fun j hj => HA.out j hj (by omega)
        go_wp2
        go_ret
        exact ⟨ret_bool HF.out.symm, rfl⟩
end Go.Proofs.Ytkkamigaolejiax
