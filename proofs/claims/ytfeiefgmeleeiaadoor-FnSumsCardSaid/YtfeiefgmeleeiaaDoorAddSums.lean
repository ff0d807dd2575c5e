/-
  What 'AddSums' answers, the program's and the model's, over the contracts of what both call.
-/
import Derived.Test.YtfeiefgmeleeiaaDoorAdd
namespace Go.Proofs.YtfeiefgmeleeiaaDoor
open Go.RowKit

/-- The arguments are as said. -/
def goodAdd (a b c d long : Int) : Bool := isSumB a && isSumB b && isSumB c && isSumB d && inB long 0 200

theorem four_cells (w : World) (a b c d : Int) (t : TypeId) : ∀ j (hj : j < [a, b, c, d].length), (w.alloc (.cells #[.int .i64 a, .int .i64 b, .int .i64 c, .int .i64 d] t)).cell? ⟨w.heap.size, j, none⟩ = some (.int .i64 [a, b, c, d][j]) := by
  intro j hj
  rw [World.cell?_alloc_at _ _ _ _ rfl]
  match j, hj with
  | 0, _ | 1, _ | 2, _ | 3, _ => rfl

theorem l1All_four (a b c d : Int) (w : World) (t : TypeId) (n : Nat) (hn : n = w.heap.size) :
    Calls Tryd.prog 39 #[.slice (some ⟨n, 0, none⟩) 4 4, .int .i64 0, .int .i64 254] (w.alloc (.cells #[.int .i64 a, .int .i64 b, .int .i64 c, .int .i64 d] t)) fun e w' =>
      e = .returned (.bool (isSumB a && isSumB b && isSumB c && isSumB d)) ∧ w' = w.alloc (.cells #[.int .i64 a, .int .i64 b, .int .i64 c, .int .i64 d] t) := by
  subst hn
  have h := l1All_any [a, b, c, d] w.heap.size 4 0 254 (w.alloc (.cells #[.int .i64 a, .int .i64 b, .int .i64 c, .int .i64 d] t)) (by simp) (four_cells w a b c d t)
  have e : allIn [a, b, c, d] 0 254 = (isSumB a && isSumB b && isSumB c && isSumB d) := by simp [allIn, inB, isSumB, Bool.and_assoc]
  rw [e] at h
  exact h

theorem goodAdd_iff (a b c d long : Int) : goodAdd a b c d long = true ↔ isSumB a = true ∧ isSumB b = true ∧ isSumB c = true ∧ isSumB d = true ∧ inB long 0 200 = true := by
  simp [goodAdd, Bool.and_eq_true, and_assoc]

theorem mul_bd (a long : Int) (ha : 0 ≤ a ∧ a ≤ 254) (hl : 0 ≤ long ∧ long ≤ 200) : 0 ≤ long * a ∧ long * a ≤ 50800 := by
  refine ⟨Int.mul_nonneg hl.1 ha.1, ?_⟩
  have h1 : long * a ≤ 200 * a := Int.mul_le_mul_of_nonneg_right hl.2 ha.1
  omega

set_option maxHeartbeats 400000 in
theorem specAdd_yes (a b c d long : Int) (w : World) (hg : goodAdd a b c d long = true) :
    Calls Tryd.prog 15 #[.int .i64 a, .int .i64 b, .int .i64 c, .int .i64 d, .int .i64 long] w fun e w' => e = .returned (.tuple #[.int .i64 ((a + c) % 255), .int .i64 ((b + d + long * a) % 255), .bool true]) ∧ Below w.heap.size w w' := by
  obtain ⟨ga, gb, gc, gd, gl⟩ := (goodAdd_iff ..).1 hg
  have ba := (isSumB_iff a).1 ga
  have bb := (isSumB_iff b).1 gb
  have bc := (isSumB_iff c).1 gc
  have bd := (isSumB_iff d).1 gd
  have bl := (inB_iff long 0 200).1 gl
  have bm := mul_bd a long ba bl
  clear hg
  go_enter Tryd.func15, Tryd.ntmps15
  go_wp2_with (first | (go_at_call 39; refine (l1All_four _ _ _ _ _ _ _ rfl).mono ?_; rintro e w' ⟨rfl, rfl⟩) | (go_at_call 40; refine (l1In_any _ _ _ _).mono ?_; rintro e w' ⟨rfl, rfl⟩))
  go_ret3
  exact ⟨rfl, (Below.refl _ _).alloc (Nat.le_refl _) _⟩

set_option maxHeartbeats 400000 in
theorem specAdd_no (a b c d long : Int) (w : World) (hg : goodAdd a b c d long = false) :
    Calls Tryd.prog 15 #[.int .i64 a, .int .i64 b, .int .i64 c, .int .i64 d, .int .i64 long] w fun e w' => e = .returned (.tuple #[.int .i64 0, .int .i64 0, .bool false]) ∧ Below w.heap.size w w' := by
  cases h4 : (isSumB a && isSumB b && isSumB c && isSumB d) with
  | true =>
    have gl : inB long 0 200 = false := by
      unfold goodAdd at hg
      rw [h4] at hg
      simpa using hg
    clear hg
    go_enter Tryd.func15, Tryd.ntmps15
    go_wp2_with (first | (go_at_call 39; refine (l1All_four _ _ _ _ _ _ _ rfl).mono ?_; rintro e w' ⟨rfl, rfl⟩; simp only [h4]) | (go_at_call 40; refine (l1In_any _ _ _ _).mono ?_; rintro e w' ⟨rfl, rfl⟩))
    go_ret3
    exact ⟨rfl, (Below.refl _ _).alloc (Nat.le_refl _) _⟩
  | false =>
    clear hg
    go_enter Tryd.func15, Tryd.ntmps15
    go_wp2_with (first | (go_at_call 39; refine (l1All_four _ _ _ _ _ _ _ rfl).mono ?_; rintro e w' ⟨rfl, rfl⟩; simp only [h4]) | (go_at_call 40; refine (l1In_any _ _ _ _).mono ?_; rintro e w' ⟨rfl, rfl⟩))
    go_ret3
    exact ⟨rfl, (Below.refl _ _).alloc (Nat.le_refl _) _⟩

set_option maxHeartbeats 400000 in
theorem implAdd_yes (a b c d long : Int) (w : World) (hg : goodAdd a b c d long = true) (ht : Tab w) :
    Calls Tryd.prog 9 #[.int .i64 a, .int .i64 b, .int .i64 c, .int .i64 d, .int .i64 long] w fun e w' => e = .returned (.tuple #[.int .i64 ((a + c) % 255), .int .i64 ((b + d + long * a) % 255), .bool true]) ∧ w' = w := by
  obtain ⟨ga, gb, gc, gd, gl⟩ := (goodAdd_iff ..).1 hg
  have ba := (isSumB_iff a).1 ga
  have bb := (isSumB_iff b).1 gb
  have bc := (isSumB_iff c).1 gc
  have bd := (isSumB_iff d).1 gd
  have bl := (inB_iff long 0 200).1 gl
  have bm : 0 ≤ a * long ∧ a * long ≤ 50800 := by rw [Int.mul_comm]; exact mul_bd a long ba bl
  have HE : Hid ((b + d + long * a) % 255 = (b + a * long + d) % 255) := by
    rw [Int.mul_comm long a]; show _ = _; congr 1; omega
  have HT : Hid (Tab w) := ht
  clear hg ht gl
  go_enter Tryd.func9, Tryd.ntmps9
  go_wp2_with (first | (go_at_call 32; refine (isSum_any _ _).mono ?_; rintro e w' ⟨rfl, rfl⟩) | (go_at_call 33; refine (rem_any _ _ (by omega) (by omega) HT.out).mono ?_; rintro e w' ⟨rfl, rfl⟩))
  go_ret3
  rw [HE.out]
  exact ⟨rfl, rfl⟩

set_option maxHeartbeats 800000 in
theorem implAdd_no (a b c d long : Int) (w : World) (hg : goodAdd a b c d long = false) :
    Calls Tryd.prog 9 #[.int .i64 a, .int .i64 b, .int .i64 c, .int .i64 d, .int .i64 long] w fun e w' => e = .returned (.tuple #[.int .i64 0, .int .i64 0, .bool false]) ∧ w' = w := by
  cases ga : isSumB a with
  | false =>
    clear hg
    go_enter Tryd.func9, Tryd.ntmps9
    go_wp2_with (go_at_call 32; refine (isSum_any _ _).mono ?_; rintro e w' ⟨rfl, rfl⟩)
    go_ret3
    exact ⟨rfl, rfl⟩
  | true =>
    cases gb : isSumB b with
    | false =>
      clear hg
      go_enter Tryd.func9, Tryd.ntmps9
      go_wp2_with (go_at_call 32; refine (isSum_any _ _).mono ?_; rintro e w' ⟨rfl, rfl⟩)
      go_ret3
      exact ⟨rfl, rfl⟩
    | true =>
      cases gc : isSumB c with
      | false =>
        clear hg
        go_enter Tryd.func9, Tryd.ntmps9
        go_wp2_with (go_at_call 32; refine (isSum_any _ _).mono ?_; rintro e w' ⟨rfl, rfl⟩)
        go_ret3
        exact ⟨rfl, rfl⟩
      | true =>
        cases gd : isSumB d with
        | false =>
          clear hg
          go_enter Tryd.func9, Tryd.ntmps9
          go_wp2_with (go_at_call 32; refine (isSum_any _ _).mono ?_; rintro e w' ⟨rfl, rfl⟩)
          go_ret3
          exact ⟨rfl, rfl⟩
        | true =>
          have gl : inB long 0 200 = false := by simpa [goodAdd, ga, gb, gc, gd] using hg
          clear hg
          by_cases hl : long < 0
          · clear gl
            go_enter Tryd.func9, Tryd.ntmps9
            go_wp2_with (go_at_call 32; refine (isSum_any _ _).mono ?_; rintro e w' ⟨rfl, rfl⟩)
            go_ret3
            exact ⟨rfl, rfl⟩
          · have hl2 : 200 < long := by
              cases hh : decide (long ≤ 200) with
              | true => simp [inB] at gl hh; omega
              | false => simp at hh; omega
            have hl3 : decide (long < 0) = false := by simp; omega
            clear gl
            go_enter Tryd.func9, Tryd.ntmps9
            go_wp2_with (go_at_call 32; refine (isSum_any _ _).mono ?_; rintro e w' ⟨rfl, rfl⟩)
            go_ret3
            exact ⟨rfl, rfl⟩
end Go.Proofs.YtfeiefgmeleeiaaDoor
