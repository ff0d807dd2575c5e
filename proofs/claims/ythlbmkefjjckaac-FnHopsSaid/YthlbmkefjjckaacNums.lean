/-
  Lists of numbers: their copies, whether they are in range, and their bytes, the program's and the model's.
-/
import Derived.Test.YthlbmkefjjckaacEqInts
import Derived.Laws.BytesArg
import Derived.Laws.IdiomStrings
import Derived.Lib.UnsafeStr
import Derived.WideShapes
namespace Go.Proofs.Ythlbmkefjjckaac
open Go.RowKit

theorem ret_bool {a b : Bool} (h : a = b) : Ending.returned (.bool a) = .returned (.bool b) := by rw [h]

/-- 'make([]int, n)'. -/
theorem make_ints (n : Nat) (hn : n ≤ 4194304) (w : World) : ∃ W1 : World,
    (Instr.makeSlice 35 (.int .i64 (n : Int)) (.int .i64 (n : Int))).run Try.prog w = .ok (.slice (some ⟨w.heap.size, 0, none⟩) n n) W1 ∧
    Own W1 w.heap.size (.slice (some ⟨w.heap.size, 0, none⟩) n n) (List.replicate n 0) ∧ Below w.heap.size w W1 ∧ w.heap.size < W1.heap.size := by
  obtain ⟨i0, hi, hz0, hz1, hz2⟩ := info_parts info3
  obtain ⟨w', hr, ho, hg⟩ := run_make_full (P := Try.prog) w w.heap.size 35 3 i0 (.int .i64 0) 1 Try.underlying35 hi hz0 hz1 .i64 .i64 n (by rw [hz2]; omega) (by unfold maxLen; omega) (Nat.le_refl _)
  have hlt := (World.ownsRow.lt ho w.heap.size rfl).2
  refine ⟨w', hr, ?_, (Below.refl _ w).grown hg (Nat.le_refl _) (fun k hk => by cases hk), hlt⟩
  unfold Own
  rw [List.length_replicate, List.map_replicate]
  have e := toList_madeCells_one (.int .i64 0) n
  simp only [Nat.mul_one] at ho
  rw [show (Value.int IntKind.i64 0).cells = #[Value.int .i64 0] from rfl, e] at ho
  exact ho

theorem Own.grow {W W' : World} {B : Nat} {v : Value} {zs : List Int} {row : Option Nat} (h : Own W B v zs) (hg : W.grownBy W' row) (hne : ∀ k, row = some k → v.ownBlock ≠ some k) : Own W' B v zs := by
  refine World.ownsRow.kept h hg ?_
  rcases hv : v.ownBlock with _ | k
  · exact .inl rfl
  · exact .inr fun e => hne k e.symm hv

/-- Whether all numbers lie between two. -/
def allB (zs : List Int) (lo hi : Int) : Bool := zs.all fun z => decide (lo ≤ z ∧ z ≤ hi)
theorem allB_no (zs : List Int) (lo hi : Int) (k : Nat) (h : k < zs.length) (hz : zs[k] < lo ∨ hi < zs[k]) : allB zs lo hi = false := by
  rw [Bool.eq_false_iff]
  intro e
  have := of_decide_eq_true (List.all_eq_true.1 e _ (List.getElem_mem h))
  omega
theorem allB_yes (zs : List Int) (lo hi : Int) (h : ∀ j (hj : j < zs.length), lo ≤ zs[j] ∧ zs[j] ≤ hi) : allB zs lo hi = true :=
  List.all_eq_true.2 fun z hz => by
    obtain ⟨j, hj, rfl⟩ := List.getElem_of_mem hz
    exact decide_eq_true (h j hj)
theorem allB_at (zs : List Int) (lo hi : Int) (h : allB zs lo hi = true) (j : Nat) (hj : j < zs.length) : lo ≤ zs[j] ∧ zs[j] ≤ hi :=
  of_decide_eq_true (List.all_eq_true.1 h _ (List.getElem_mem hj))

/-- 'l1In'. -/
theorem l1In_any (n lo hi : Int) (w : World) : Calls Try.prog 77 #[.int .i64 n, .int .i64 lo, .int .i64 hi] w fun e w' => e = .returned (.bool (decide (lo ≤ n ∧ n ≤ hi))) ∧ w' = w := by
  by_cases h1 : lo ≤ n
  · have d1 : decide (lo ≤ n) = true := by simp; omega
    by_cases h2 : n ≤ hi
    · have d2 : decide (n ≤ hi) = true := by simp; omega
      have e : decide (lo ≤ n ∧ n ≤ hi) = true := by simp; omega
      rw [e]; clear e
      go_enter Try.func77, Try.ntmps77
      go_wp2
      go_ret
      exact ⟨rfl, rfl⟩
    · have d2 : decide (n ≤ hi) = false := by simp; omega
      have e : decide (lo ≤ n ∧ n ≤ hi) = false := by simp; omega
      rw [e]; clear e
      go_enter Try.func77, Try.ntmps77
      go_wp2
      go_ret
      exact ⟨rfl, rfl⟩
  · have d1 : decide (lo ≤ n) = false := by simp; omega
    have e : decide (lo ≤ n ∧ n ≤ hi) = false := by simp; omega
    rw [e]; clear e
    go_enter Try.func77, Try.ntmps77
    go_wp2
    go_ret
    exact ⟨rfl, rfl⟩

set_option maxRecDepth 100000 in
set_option maxHeartbeats 1000000 in
theorem l1All_any (W : World) (v : Value) (zs : List Int) (lo hi : Int) (h : Reads W v zs) (hl : zs.length ≤ 4194304) :
    Calls Try.prog 98 #[v, .int .i64 lo, .int .i64 hi] W fun e W' => e = .returned (.bool (allB zs lo hi)) ∧ W' = W := by
  obtain ⟨a1, cap1, rfl, hc1⟩ := h
  rcases hc1 with rfl | ⟨g1, o1, rfl, -, hc1⟩
  · simp only [List.length_nil]
    go_enter Try.func98, Try.ntmps98
    go_wp2
    refine wp_loop_rounds 1 ?_
    rw [rounds_succ]
    go_wp2
    go_ret
    exact ⟨rfl, rfl⟩
  · have HC1 : Hid (∀ j (hj : j < zs.length), W.cell? ⟨g1, o1 + j, none⟩ = some (.int .i64 zs[j])) := hc1
    clear hc1
    go_enter Try.func98, Try.ntmps98
    go_wp2
    go_loop [11] (fun i => ∃ k : Nat, k ≤ zs.length ∧ i = .int .i64 k ∧ Hid (∀ j (hj : j < zs.length), j < k → lo ≤ zs[j] ∧ zs[j] ≤ hi)) (fun i => zs.length - (intOf i).toNat)
    case atStart => exact ⟨0, Nat.zero_le _, rfl, fun j hj h => absurd h (Nat.not_lt_zero _)⟩
    case round =>
      obtain ⟨k, hk, rfl, HA⟩ := hrel
      by_cases hlt : k < zs.length
      · have c1 := HC1.out k hlt
        by_cases hin : lo ≤ zs[k] ∧ zs[k] ≤ hi
        · have HA1 : Hid (∀ j (hj : j < zs.length), j < k + 1 → lo ≤ zs[j] ∧ zs[j] ≤ hi) := fun j hj h => by
            by_cases e : j = k
            · subst e; exact hin
            · exact HA.out j hj (by omega)
          have d := decide_eq_true hin
          generalize zs[k] = z at *
          have hlt' : (k : Int) < (zs.length : Int) := by omega
          go_wp2_with fail
          refine (l1In_any z lo hi _).mono ?_
          rintro e w' ⟨rfl, rfl⟩
          rw [d]
          go_wp2
          go_round
          case rel => exact ⟨k + 1, by omega, by go_num, HA1⟩
          case measure => simp [intOf]; omega
        · have HF : Hid (allB zs lo hi = false) := allB_no zs lo hi k hlt (by omega)
          have d := decide_eq_false hin
          generalize zs[k] = z at *
          have hlt' : (k : Int) < (zs.length : Int) := by omega
          go_wp2_with fail
          refine (l1In_any z lo hi _).mono ?_
          rintro e w' ⟨rfl, rfl⟩
          rw [d]
          go_wp2
          go_ret
          exact ⟨ret_bool HF.out.symm, rfl⟩
      · have HF : Hid (allB zs lo hi = true) := allB_yes zs lo hi fun j hj => HA.out j hj (by omega)
        go_wp2
        go_ret
        exact ⟨ret_bool HF.out.symm, rfl⟩

/-- Whether a list can be put into bytes. -/
def numsB (zs : List Int) : Bool := decide (zs.length ≤ 20) && allB zs 0 65535

end Go.Proofs.Ythlbmkefjjckaac
