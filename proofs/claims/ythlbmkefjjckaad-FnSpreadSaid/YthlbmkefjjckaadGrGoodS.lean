/-
  'GoodEdges' of the model.
-/
import Derived.Test.YthlbmkefjjckaadGrGood
import Derived.Test.YthlbmkefjjckaadBunA
import Derived.BigQuiet
namespace Go.Proofs.Ythlbmkefjjckaad
open Go.RowKit
set_option linter.unusedVariables false

/-- As said up to spot u. -/
def okU (u : Int) (x : EdD) : Bool := decide (0 ≤ x.A ∧ x.A ≤ u) && (decide (0 ≤ x.B ∧ x.B ≤ u) && (!decide (x.B ≤ x.A) && decide (1 ≤ x.Cost ∧ x.Cost ≤ 100)))
def stepU (u : Int) (l : List EdD) (j : Nat) : Bool := okU u (l.getD j ed0) && (decide (j = 0) || ahead (l.getD (j - 1) ed0) (l.getD j ed0))
theorem okU_ok (n u : Int) (hu : u = n - 1) (x : EdD) : okU u x = okEd n x := by
  subst hu
  unfold okU okEd
  rw [Bool.eq_iff_iff]
  simp
  omega
theorem stepU_step (n u : Int) (hu : u = n - 1) (l : List EdD) (j : Nat) : stepU u l j = stepEd n l j := by
  unfold stepU stepEd
  rw [okU_ok n u hu]
theorem goodU_no (n u : Int) (l : List EdD) (k : Nat) (hu : (1 ≤ n ∧ n ≤ 12) → u = n - 1) (h : k < l.length) (hf : stepU u l k = false) : goodEd n l = false := by
  by_cases hn : 1 ≤ n ∧ n ≤ 12
  · rw [stepU_step n u (hu hn)] at hf
    exact goodEd_no n l k h hf
  · exact goodEd_spots n l hn
theorem stepU_zero (u : Int) (l : List EdD) (h : 0 < l.length) : stepU u l 0 = okU u l[0] := by
  unfold stepU
  rw [getEd l 0 h]
  simp
theorem stepU_succ (u : Int) (l : List EdD) (j : Nat) (h : j + 1 < l.length) : stepU u l (j + 1) = (okU u l[j + 1] && ahead l[j] l[j + 1]) := by
  unfold stepU
  rw [getEd l (j + 1) h, Nat.add_sub_cancel, getEd l j (by omega)]
  simp

set_option maxRecDepth 100000 in
set_option maxHeartbeats 4000000 in
theorem specGoodEd_any (W : World) (v : Value) (n : Int) (l : List EdD) (h : ReadsEd W v l) (hl : l.length ≤ 2097152) :
    Calls Try.prog 39 #[.int .i64 n, v] W fun e W' => e = .returned (.bool (goodEd n l)) ∧ Below W.heap.size W W' := by
  obtain ⟨a1, cap1, rfl, hc1⟩ := h
  obtain ⟨gg, hgg⟩ : ∃ gg, gg = goodEd n l := ⟨_, rfl⟩
  rw [← hgg]
  have HO : Hid (gg = goodEd n l) := hgg
  clear hgg
  obtain ⟨u, hu⟩ : ∃ u, IntKind.i64.wrap (n - 1) = u := ⟨_, rfl⟩
  have HU : Hid ((1 ≤ n ∧ n ≤ 12) → u = n - 1) := fun hn => by rw [← hu, IntKind.wrap_i64]; omega
  have HS0 : Hid (Since W.heap.size W W) := Since.start W
  have HEND : Hid ((∀ j, j < l.length → stepU u l j = true) → (decide (1 ≤ n ∧ n ≤ 12) && decide ((l.length : Int) ≤ 40)) = goodEd n l) := fun hA => by
    by_cases hn : 1 ≤ n ∧ n ≤ 12
    · by_cases h40 : l.length ≤ 40
      · rw [goodEd_yes n l hn h40 fun j hj => by rw [← stepU_step n u (HU.out hn)]; exact hA j hj, decide_eq_true hn, decide_eq_true (show (l.length : Int) ≤ 40 by omega)]
        rfl
      · rw [goodEd_long n l h40, decide_eq_false (show ¬ (l.length : Int) ≤ 40 by omega), Bool.and_false]
    · rw [goodEd_spots n l hn, decide_eq_false hn]
      rfl
  by_cases h1 : l = []
  · subst h1
    have HE := HEND.out fun j hj => absurd hj (Nat.not_lt_zero _)
    simp only [List.length_nil] at *
    clear hc1
    go_enter Try.func39, Try.ntmps39
    go_wp2
    refine wp_loop_rounds 1 ?_
    rw [rounds_succ]
    go_wp2_with fail
    refine (l1In_any n 1 12 _).mono ?_
    rintro e ww ⟨rfl, hww⟩
    obtain rfl := hww
    cases hd : decide (1 ≤ n ∧ n ≤ 12) with
    | false =>
      rw [hd] at HE
      go_wp2
      go_ret
      exact ⟨ret_bool1 (HE.trans HO.out.symm), HS0.out.1⟩
    | true =>
      rw [hd] at HE
      go_wp2
      go_ret
      exact ⟨ret_bool1 (HE.trans HO.out.symm), HS0.out.1⟩
  · obtain ⟨g1, o1, rfl, hg1, hc1⟩ := hc1.resolve_left h1
    have HC1 : Hid (∀ W1, Since W.heap.size W W1 → ∀ j (hj : j < l.length), EdAt W1 g1 (o1 + j * 3) l[j]) := fun W1 hS j hj => (hc1 j hj).below hg1 hS.1
    clear hc1 hg1 h1
    go_enter Try.func39, Try.ntmps39
    go_wp2
    go_loopw [9] (fun i wr => ∃ k : Nat, k ≤ l.length ∧ i = .int .i64 k ∧ Hid ((∀ j, j < k → stepU u l j = true) ∧ Since W.heap.size W wr)) (fun i _ => l.length - (intOf i).toNat)
    case atStart => exact ⟨0, Nat.zero_le _, rfl, fun j hj => absurd hj (Nat.not_lt_zero _), HS0.out⟩
    case round =>
      obtain ⟨k, hk, rfl, HK⟩ := hrel
      by_cases hlt : k < l.length
      · obtain ⟨hA, hS⟩ := HK.out
        have hlt' : (k : Int) < (l.length : Int) := by omega
        obtain ⟨q0, q1, q2⟩ := HC1.out wr hS k hlt
        have HOK : Hid (stepU u l k = true → ∀ j, j < k + 1 → stepU u l j = true) := fun ho j hj => by
          by_cases e : j = k
          · rw [e]; exact ho
          · exact hA j (by omega)
        have HNO : Hid (stepU u l k = false → goodEd n l = false) := goodU_no n u l k HU.out hlt
        have HPR : Hid (k = 0 ∨ ∃ j y, k = j + 1 ∧ (∀ W1, Since W.heap.size W W1 → EdAt W1 g1 (o1 + j * 3) y) ∧ stepU u l k = (okU u l[k] && ahead y l[k])) := by
          cases k with
          | zero => exact .inl rfl
          | succ j => exact .inr ⟨j, l[j], rfl, fun W1 hS1 => HC1.out W1 hS1 j (by omega), stepU_succ u l j hlt⟩
        have HP0 : Hid (k = 0 → stepU u l k = okU u l[k]) := fun e => by subst e; exact stepU_zero u l hlt
        have HGB : Hid (okU u l[k] = false → stepU u l k = false) := fun hg => by
          rcases HPR.out with e | ⟨j, y, e, -, ho⟩
          · rw [HP0.out e, hg]
          · rw [ho, hg]; rfl
        generalize l[k] = x at *
        generalize stepU u l k = oo at *
        have HS1 : Hid (Since W.heap.size W (wr.alloc (.cells #[.int .i64 x.A, .int .i64 x.B, .int .i64 x.Cost] 84))) := hS.step ((Below.refl _ wr).alloc (Nat.le_refl _) _)
        have HX : Hid (∀ w', Since (wr.alloc (.cells #[.int .i64 x.A, .int .i64 x.B, .int .i64 x.Cost] 84)).heap.size (wr.alloc (.cells #[.int .i64 x.A, .int .i64 x.B, .int .i64 x.Cost] 84)) w' → w'.cell? ⟨wr.heap.size, 0, none⟩ = some (.int .i64 x.A) ∧ w'.cell? ⟨wr.heap.size, 1, none⟩ = some (.int .i64 x.B) ∧ w'.cell? ⟨wr.heap.size, 2, none⟩ = some (.int .i64 x.Cost)) := newEd wr x
        obtain ⟨c0, c1, c2⟩ := HX.out (wr.alloc (.cells #[.int .i64 x.A, .int .i64 x.B, .int .i64 x.Cost] 84)) (Since.start _)
        clear hA hS HK HC1
        have HOKU : Hid (okU u x = (decide (0 ≤ x.A ∧ x.A ≤ u) && (decide (0 ≤ x.B ∧ x.B ≤ u) && (!decide (x.B ≤ x.A) && decide (1 ≤ x.Cost ∧ x.Cost ≤ 100))))) := rfl
        have HFALSE : Hid (okU u x = false → goodEd n l = false) := fun h => HNO.out (HGB.out h)
        cases d1 : decide (0 ≤ x.A ∧ x.A ≤ u) with
        | false =>
          have HF : Hid (goodEd n l = false) := HFALSE.out (HOKU.out.trans (by rw [d1]; rfl))
          clear HOK HNO HPR HP0 HGB HOKU HFALSE
          go_wp2_with fail
          refine (l1In_any x.A 0 u _).mono ?_
          rintro e ww ⟨rfl, hww⟩
          obtain rfl := hww
          rw [d1]
          go_wp2
          go_ret
          exact ⟨ret_bool1 (HF.out.symm.trans HO.out.symm), HS1.out.1⟩
        | true =>
        cases d2 : decide (0 ≤ x.B ∧ x.B ≤ u) with
        | false =>
          have HF : Hid (goodEd n l = false) := HFALSE.out (HOKU.out.trans (by rw [d1, d2]; rfl))
          clear HOK HNO HPR HP0 HGB HOKU HFALSE
          go_wp2_with fail
          refine (l1In_any x.A 0 u _).mono ?_
          rintro e ww ⟨rfl, hww⟩
          obtain rfl := hww
          rw [d1]
          go_wp2_with fail
          refine (l1In_any x.B 0 u _).mono ?_
          rintro e ww ⟨rfl, hww⟩
          obtain rfl := hww
          rw [d2]
          go_wp2
          go_ret
          exact ⟨ret_bool1 (HF.out.symm.trans HO.out.symm), HS1.out.1⟩
        | true =>
        go_wp2_with fail
        refine (l1In_any x.A 0 u _).mono ?_
        rintro e ww ⟨rfl, hww⟩
        obtain rfl := hww
        rw [d1]
        go_wp2_with fail
        refine (l1In_any x.B 0 u _).mono ?_
        rintro e ww ⟨rfl, hww⟩
        obtain rfl := hww
        rw [d2]
        cases d3 : decide (x.B ≤ x.A) with
        | true =>
          have HF : Hid (goodEd n l = false) := HFALSE.out (HOKU.out.trans (by rw [d1, d2, d3]; rfl))
          clear HOK HNO HPR HP0 HGB HOKU HFALSE
          go_wp2
          go_ret
          exact ⟨ret_bool1 (HF.out.symm.trans HO.out.symm), HS1.out.1⟩
        | false =>
        go_wp2_with fail
        refine (l1In_any x.Cost 1 100 _).mono ?_
        rintro e ww ⟨rfl, hww⟩
        obtain rfl := hww
        cases d4 : decide (1 ≤ x.Cost ∧ x.Cost ≤ 100) with
        | false =>
          have HF : Hid (goodEd n l = false) := HFALSE.out (HOKU.out.trans (by rw [d1, d2, d3, d4]; rfl))
          clear HOK HNO HPR HP0 HGB HOKU HFALSE
          go_wp2
          go_ret
          exact ⟨ret_bool1 (HF.out.symm.trans HO.out.symm), HS1.out.1⟩
        | true =>
        have hok : okU u x = true := HOKU.out.trans (by rw [d1, d2, d3, d4]; rfl)
        rw [hok] at HPR HP0
        clear HOKU HFALSE HGB hok d1 d2 d3 d4
        rcases HPR.out with e0 | ⟨j, y, ej, hy, ho⟩
        · have HA1 : Hid (∀ j, j < k + 1 → stepU u l j = true) := HOK.out (HP0.out e0)
          clear HOK HNO HPR HP0
          go_wp2
          go_quiet (fail)
          go_wp2
          go_roundw
          case rel => exact ⟨k + 1, by omega, by go_num, HA1.out, HS1.out.drewN nq⟩
          case measure => simp [intOf]; omega
        · obtain ⟨y0, y1, y2⟩ := hy (wr.alloc (.cells #[.int .i64 x.A, .int .i64 x.B, .int .i64 x.Cost] 84)) HS1.out
          have hjl : (j : Int) < (l.length : Int) := by omega
          have hw1 : IntKind.i64.wrap ((k : Int) - 1) = (j : Int) := by rw [IntKind.wrap_i64]; omega
          have hk0 : 0 < k := by omega
          rw [Bool.true_and] at ho
          clear HPR HP0 hy
          by_cases e1 : x.A < y.A
          · have HF : Hid (goodEd n l = false) := HNO.out (ho.trans (by unfold ahead; exact decide_eq_false (by omega)))
            have f1 : decide (x.A < y.A) = true := decide_eq_true e1
            clear HOK HNO ho ej e1
            go_wp2
            go_quiet (fail)
            go_wp2
            go_ret
            exact ⟨ret_bool1 (HF.out.symm.trans HO.out.symm), (HS1.out.drewN nq).1⟩
          · have f1 : decide (x.A < y.A) = false := decide_eq_false e1
            by_cases e2 : y.A = x.A
            · have f2 : (y.A == x.A) = true := beq_iff_eq.2 e2
              by_cases e3 : x.B ≤ y.B
              · have HF : Hid (goodEd n l = false) := HNO.out (ho.trans (by unfold ahead; exact decide_eq_false (by omega)))
                have f3 : decide (x.B ≤ y.B) = true := decide_eq_true e3
                clear HOK HNO ho ej e1 e2 e3
                go_wp2
                go_quiet (fail)
                go_wp2
                go_ret
                exact ⟨ret_bool1 (HF.out.symm.trans HO.out.symm), (HS1.out.drewN nq).1⟩
              · have HA1 : Hid (∀ j, j < k + 1 → stepU u l j = true) := HOK.out (ho.trans (by unfold ahead; exact decide_eq_true (by omega)))
                have f3 : decide (x.B ≤ y.B) = false := decide_eq_false e3
                clear HOK HNO ho ej e1 e2 e3
                go_wp2
                go_quiet (fail)
                go_wp2
                go_roundw
                case rel => exact ⟨k + 1, by omega, by go_num, HA1.out, HS1.out.drewN nq⟩
                case measure => simp [intOf]; omega
            · have f2 : (y.A == x.A) = false := beq_eq_false_iff_ne.2 e2
              have HA1 : Hid (∀ j, j < k + 1 → stepU u l j = true) := HOK.out (ho.trans (by unfold ahead; exact decide_eq_true (by omega)))
              clear HOK HNO ho ej e1 e2
              go_wp2
              go_quiet (fail)
              go_wp2
              go_roundw
              case rel => exact ⟨k + 1, by omega, by go_num, HA1.out, HS1.out.drewN nq⟩
              case measure => simp [intOf]; omega
      · have HE : Hid ((decide (1 ≤ n ∧ n ≤ 12) && decide ((l.length : Int) ≤ 40)) = goodEd n l) := HEND.out fun j hj => HK.out.1 j (by omega)
        have HB : Hid (Below W.heap.size W wr) := HK.out.2.1
        have hlt' : ¬ (k : Int) < (l.length : Int) := by omega
        clear HK HEND
        go_wp2_with fail
        refine (l1In_any n 1 12 _).mono ?_
        rintro e ww ⟨rfl, hww⟩
        obtain rfl := hww
        cases hd : decide (1 ≤ n ∧ n ≤ 12) with
        | false =>
          rw [hd] at HE
          go_wp2
          go_ret
          exact ⟨ret_bool1 (HE.out.trans HO.out.symm), HB.out⟩
        | true =>
          rw [hd] at HE
          go_wp2
          go_ret
          exact ⟨ret_bool1 (HE.out.trans HO.out.symm), HB.out⟩
end Go.Proofs.Ythlbmkefjjckaad
