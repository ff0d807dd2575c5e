/-
  Bridges as plain data: which are good, which beat others, who leads, who serves; and the small tests of the program and of the model.
-/
import Derived.Test.YthdcfeafkellcabRowBr
namespace Go.Proofs.Ythdcfeafkellcab
open Go.RowKit

def goodB (x : BrD) : Bool := decide (1 ≤ x.id ∧ x.id ≤ 1000) && decide (0 ≤ x.rank ∧ x.rank ≤ 127)
def beatsB (x y : BrD) : Bool := decide (y.rank < x.rank ∨ (x.rank = y.rank ∧ y.id < x.id))
theorem goodB_four (x : BrD) : goodB x = (decide (1 ≤ x.id) && decide (x.id ≤ 1000) && decide (0 ≤ x.rank) && decide (x.rank ≤ 127)) := by
  unfold goodB
  rw [Bool.eq_iff_iff]
  simp
  omega

set_option maxHeartbeats 1000000 in
theorem isGoodB_any (W : World) (x : BrD) : Calls Try.prog 62 #[.agg #[.int .i64 x.id, .int .i64 x.rank, .bool x.up]] W fun e W' => e = .returned (.bool (goodB x)) ∧ Below W.heap.size W W' := by
  have HB : Hid (Below W.heap.size W (W.alloc (.cells #[.int .i64 x.id, .int .i64 x.rank, .bool x.up] 35))) := (Below.refl _ W).alloc (Nat.le_refl _) _
  rw [goodB_four]
  cases d1 : decide (1 ≤ x.id) <;> cases d2 : decide (x.id ≤ 1000) <;> cases d3 : decide (0 ≤ x.rank) <;> cases d4 : decide (x.rank ≤ 127) <;>
    (go_enter Try.func62, Try.ntmps62
     go_wp2
     go_ret
     exact ⟨rfl, HB.out⟩)

theorem l4Bridge_any (W : World) (x : BrD) : Calls Try.prog 63 #[.agg #[.int .i64 x.id, .int .i64 x.rank, .bool x.up]] W fun e W' => e = .returned (.bool (goodB x)) ∧ Below W.heap.size W W' := by
  have HB : Hid (Below W.heap.size W (W.alloc (.cells #[.int .i64 x.id, .int .i64 x.rank, .bool x.up] 35))) := (Below.refl _ W).alloc (Nat.le_refl _) _
  unfold goodB
  cases d1 : decide (1 ≤ x.id ∧ x.id ≤ 1000)
  · have D1 : Hid (decide (1 ≤ x.id ∧ x.id ≤ 1000) = false) := d1
    clear d1
    go_enter Try.func63, Try.ntmps63
    go_wp2_with fail
    refine (l1In_any x.id 1 1000 _).mono ?_
    rintro e w' ⟨rfl, rfl⟩
    rw [D1.out]
    go_wp2
    go_ret
    exact ⟨rfl, HB.out⟩
  · have D1 : Hid (decide (1 ≤ x.id ∧ x.id ≤ 1000) = true) := d1
    clear d1
    rw [Bool.true_and]
    obtain ⟨d, hd⟩ : ∃ d, decide (0 ≤ x.rank ∧ x.rank ≤ 127) = d := ⟨_, rfl⟩
    rw [hd]
    have D2 : Hid (decide (0 ≤ x.rank ∧ x.rank ≤ 127) = d) := hd
    clear hd
    go_enter Try.func63, Try.ntmps63
    go_wp2_with fail
    refine (l1In_any x.id 1 1000 _).mono ?_
    rintro e w' ⟨rfl, rfl⟩
    rw [D1.out]
    go_wp2_with fail
    refine (l1In_any x.rank 0 127 _).mono ?_
    rintro e w' ⟨rfl, rfl⟩
    rw [D2.out]
    go_wp2
    go_ret
    exact ⟨rfl, HB.out⟩

theorem two_below (W : World) (a b : Obj) : Below W.heap.size W ((W.alloc a).alloc b) := ((Below.refl _ W).alloc (Nat.le_refl _) _).alloc (by simp) _

set_option maxHeartbeats 1000000 in
theorem beatsB_any (W : World) (x y : BrD) : Calls Try.prog 57 #[.agg #[.int .i64 x.id, .int .i64 x.rank, .bool x.up], .agg #[.int .i64 y.id, .int .i64 y.rank, .bool y.up]] W fun e W' => e = .returned (.bool (beatsB x y)) ∧ Below W.heap.size W W' := by
  by_cases h : x.rank = y.rank
  · have HE : Hid (decide (y.id < x.id) = beatsB x y) := by
      show _ = _
      unfold beatsB
      rw [Bool.eq_iff_iff]
      simp
      omega
    go_enter Try.func57, Try.ntmps57
    go_wp2
    go_ret
    exact ⟨ret_bool HE.out, two_below _ _ _⟩
  · have HE : Hid (decide (y.rank < x.rank) = beatsB x y) := by
      show _ = _
      unfold beatsB
      rw [Bool.eq_iff_iff]
      simp
      omega
    go_enter Try.func57, Try.ntmps57
    go_wp2
    go_ret
    exact ⟨ret_bool HE.out, two_below _ _ _⟩

set_option maxHeartbeats 1000000 in
theorem l4Beats_any (W : World) (x y : BrD) : Calls Try.prog 65 #[.agg #[.int .i64 x.id, .int .i64 x.rank, .bool x.up], .agg #[.int .i64 y.id, .int .i64 y.rank, .bool y.up]] W fun e W' => e = .returned (.bool (beatsB x y)) ∧ Below W.heap.size W W' := by
  by_cases h1 : y.rank < x.rank
  · have d1 := decide_eq_true h1
    have HE : Hid (true = beatsB x y) := by
      show _ = _
      unfold beatsB
      rw [Bool.eq_iff_iff]
      simp
      omega
    go_enter Try.func65, Try.ntmps65
    go_wp2
    go_ret
    exact ⟨ret_bool HE.out, two_below _ _ _⟩
  · have d1 := decide_eq_false h1
    by_cases h : x.rank = y.rank
    · have HE : Hid (decide (y.id < x.id) = beatsB x y) := by
        show _ = _
        unfold beatsB
        rw [Bool.eq_iff_iff]
        simp
        omega
      go_enter Try.func65, Try.ntmps65
      go_wp2
      go_ret
      exact ⟨ret_bool HE.out, two_below _ _ _⟩
    · have HE : Hid (false = beatsB x y) := by
        show _ = _
        unfold beatsB
        rw [Bool.eq_iff_iff]
        simp
        omega
      go_enter Try.func65, Try.ntmps65
      go_wp2
      go_ret
      exact ⟨ret_bool HE.out, two_below _ _ _⟩
end Go.Proofs.Ythdcfeafkellcab
