/-
  What 'AddSums' answers, the program's and the model's: of four numbers in 0..254 and a length in 0..200 both sums and true, else zeros and false; nothing that was there is written.
-/
import Derived.Test.YtfeiefgmeleeiaaDoorDoor
namespace Go.Proofs.YtfeiefgmeleeiaaDoor
open Go.RowKit

/-- A number in 0..254. -/
def isSumB (n : Int) : Bool := decide (0 ≤ n) && decide (n ≤ 254)
theorem isSumB_iff (n : Int) : isSumB n = true ↔ 0 ≤ n ∧ n ≤ 254 := by simp [isSumB]

theorem isSum_any (n : Int) (w : World) : Calls Tryd.prog 32 #[.int .i64 n] w fun e w' => e = .returned (.bool (isSumB n)) ∧ w' = w := by
  by_cases h0 : 0 ≤ n
  · by_cases h1 : n < 255
    · have e : isSumB n = true := (isSumB_iff n).2 ⟨h0, by omega⟩
      go_enter Tryd.func32, Tryd.ntmps32
      go_wp2
      go_ret
      exact ⟨by simp [e], rfl⟩
    · have e : isSumB n = false := by cases hh : isSumB n with
        | false => rfl
        | true => exact absurd ((isSumB_iff n).1 hh).2 (by omega)
      go_enter Tryd.func32, Tryd.ntmps32
      go_wp2
      go_ret
      exact ⟨by simp, rfl⟩
  · have e : isSumB n = false := by cases hh : isSumB n with
      | false => rfl
      | true => exact absurd ((isSumB_iff n).1 hh).1 h0
    have hd : decide (0 ≤ n) = false := by simpa using h0
    go_enter Tryd.func32, Tryd.ntmps32
    go_wp2
    go_ret
    exact ⟨by simp, rfl⟩

/-- A number within bounds. -/
def inB (n lo hi : Int) : Bool := decide (lo ≤ n) && decide (n ≤ hi)
theorem inB_iff (n lo hi : Int) : inB n lo hi = true ↔ lo ≤ n ∧ n ≤ hi := by simp [inB]

theorem l1In_any (n lo hi : Int) (w : World) : Calls Tryd.prog 40 #[.int .i64 n, .int .i64 lo, .int .i64 hi] w fun e w' => e = .returned (.bool (inB n lo hi)) ∧ w' = w := by
  by_cases h0 : lo ≤ n
  · by_cases h1 : n ≤ hi
    · go_enter Tryd.func40, Tryd.ntmps40
      go_wp2
      go_ret
      exact ⟨by simp [inB, h0, h1], rfl⟩
    · go_enter Tryd.func40, Tryd.ntmps40
      go_wp2
      go_ret
      exact ⟨by simp [inB, h0]; omega, rfl⟩
  · have hd : decide (lo ≤ n) = false := by simpa using h0
    go_enter Tryd.func40, Tryd.ntmps40
    go_wp2
    go_ret
    exact ⟨by simp [inB, hd], rfl⟩

/-- All of some numbers within bounds. -/
def allIn (zs : List Int) (lo hi : Int) : Bool := zs.all fun n => inB n lo hi

theorem allIn_take_all (zs : List Int) (lo hi : Int) (k : Nat) (h : ¬ k < zs.length) (ha : allIn (zs.take k) lo hi = true) : allIn zs lo hi = true := by
  rwa [List.take_of_length_le (by omega)] at ha
theorem allIn_step (zs : List Int) (lo hi : Int) (k : Nat) (h : k < zs.length) (ha : allIn (zs.take k) lo hi = true) (hk : inB zs[k] lo hi = true) : allIn (zs.take (k + 1)) lo hi = true := by
  rw [List.take_succ_eq_append_getElem h]; unfold allIn at *; rw [List.all_append, ha]; simp [hk]
theorem allIn_not (zs : List Int) (lo hi : Int) (k : Nat) (h : k < zs.length) (hk : inB zs[k] lo hi = false) : allIn zs lo hi = false := by
  unfold allIn
  rw [List.all_eq_false]
  exact ⟨zs[k], List.getElem_mem h, by simp [hk]⟩

set_option maxHeartbeats 400000 in
theorem l1All_any (zs : List Int) (b cap : Nat) (lo hi : Int) (w : World) (hl : zs.length ≤ 200) (hc : ∀ j (hj : j < zs.length), w.cell? ⟨b, j, none⟩ = some (.int .i64 zs[j])) :
    Calls Tryd.prog 39 #[.slice (some ⟨b, 0, none⟩) zs.length cap, .int .i64 lo, .int .i64 hi] w fun e w' => e = .returned (.bool (allIn zs lo hi)) ∧ w' = w := by
  go_enter Tryd.func39, Tryd.ntmps39
  go_wp2
  go_loop [11] (fun i => ∃ k : Nat, k ≤ zs.length ∧ i = .int .i64 k ∧ allIn (zs.take k) lo hi = true) (fun i => zs.length - (intOf i).toNat)
  case atStart => exact ⟨0, Nat.zero_le _, rfl, rfl⟩
  case round =>
    obtain ⟨k, hk, rfl, ha⟩ := hrel
    have HA : Hid (allIn (zs.take k) lo hi = true) := ha
    clear ha
    by_cases hlt : k < zs.length
    · have hcell := hc k hlt
      clear hc
      cases hin : inB zs[k] lo hi with
      | true =>
        go_wp2_with (go_at_call 40; refine (l1In_any _ _ _ _).mono ?_; rintro e w' ⟨rfl, rfl⟩)
        go_round
        case rel => exact ⟨k + 1, by omega, by go_num, allIn_step zs lo hi k hlt HA.out hin⟩
        case measure => simp [intOf]; omega
      | false =>
        have HN : Hid (allIn zs lo hi = false) := allIn_not zs lo hi k hlt hin
        go_wp2_with (go_at_call 40; refine (l1In_any _ _ _ _).mono ?_; rintro e w' ⟨rfl, rfl⟩)
        go_ret
        rw [HN.out]
        exact ⟨rfl, rfl⟩
    · have HY : Hid (allIn zs lo hi = true) := allIn_take_all zs lo hi k hlt HA.out
      go_wp2
      go_ret
      rw [HY.out]
      exact ⟨rfl, rfl⟩
end Go.Proofs.YtfeiefgmeleeiaaDoor
