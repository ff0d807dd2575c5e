/-
  Lists of numbers: their copies, whether they are in range, and their bytes, the program's and the model's.
-/
import Derived.Test.YthlbmkefjjckaagEqInts
import Derived.Laws.BytesArg
import Derived.Laws.IdiomStrings
import Derived.Lib.UnsafeStr
import Derived.WideShapes
namespace Go.Proofs.Ythlbmkefjjckaag
open Go.RowKit

theorem ret_bool {a b : Bool} (h : a = b) : Ending.returned (.bool a) = .returned (.bool b) := by rw [h]

/-- 'make([]int, n)'. -/
theorem make_ints (n : Nat) (hn : n ≤ 4194304) (w : World) : ∃ W1 : World,
    (Instr.makeSlice 22 (.int .i64 (n : Int)) (.int .i64 (n : Int))).run Try.prog w = .ok (.slice (some ⟨w.heap.size, 0, none⟩) n n) W1 ∧
    Own W1 w.heap.size (.slice (some ⟨w.heap.size, 0, none⟩) n n) (List.replicate n 0) ∧ Below w.heap.size w W1 ∧ w.heap.size < W1.heap.size := by
  obtain ⟨i0, hi, hz0, hz1, hz2⟩ := info_parts info3
  obtain ⟨w', hr, ho, hg⟩ := run_make_full (P := Try.prog) w w.heap.size 22 3 i0 (.int .i64 0) 1 Try.underlying22 hi hz0 hz1 .i64 .i64 n (by rw [hz2]; omega) (by unfold maxLen; omega) (Nat.le_refl _)
  have hlt := (World.ownsRow.lt ho w.heap.size rfl).2
  refine ⟨w', hr, ?_, (Below.refl _ w).grown hg (Nat.le_refl _) (fun k hk => by cases hk), hlt⟩
  unfold Own
  rw [List.length_replicate, List.map_replicate]
  have e := toList_madeCells_one (.int .i64 0) n
  simp only [Nat.mul_one] at ho
  rw [show (Value.int IntKind.i64 0).cells = #[Value.int .i64 0] from rfl, e] at ho
  exact ho

theorem Own.grow {W W' : World} {B : Nat} {v : Value} {zs : List Int} {row : Option Nat} (h : Own W B v zs) (hg : W.grownBy W' row) (hne : ∀ k, row = some k → v.ownBlock ≠ some k) : Own W' B v zs := by
  refine World.ownsRow.kept h hg ?_
  rcases hv : v.ownBlock with _ | k
  · exact .inl rfl
  · exact .inr fun e => hne k e.symm hv

set_option maxRecDepth 100000 in
set_option maxHeartbeats 1000000 in
/-- 'toIntS': a copy. -/
theorem toInts_any (W : World) (v : Value) (zs : List Int) (h : Reads W v zs) (hl : zs.length ≤ 4194304) :
    Calls Try.prog 10 #[v] W fun e W' => ∃ v', e = .returned v' ∧ Own W' W.heap.size v' zs ∧ Below W.heap.size W W' := by
  obtain ⟨a1, cap1, rfl, hc1⟩ := h
  obtain ⟨W1, hmake, ho, hb, hlt⟩ := make_ints zs.length hl W
  obtain ⟨H, hH⟩ : ∃ H, H = W.heap.size := ⟨_, rfl⟩
  rw [← hH] at hmake ho hb hlt ⊢
  have HB : Hid (Below H W W1) := hb
  have HO : Hid (Own W1 H (.slice (some ⟨H, 0, none⟩) zs.length zs.length) (List.replicate zs.length 0)) := ho
  have HHW : Hid (H = W.heap.size) := hH
  clear ho hb hH
  rcases hc1 with rfl | ⟨g1, o1, rfl, hg1, hc1⟩
  · simp only [List.length_nil] at HO ⊢
    have hm0 : (Instr.makeSlice 22 (.int .i64 0) (.int .i64 0)).run Try.prog W = .ok (.slice (some ⟨H, 0, none⟩) 0 0) W1 := hmake
    clear hmake
    go_enter Try.func10, Try.ntmps10
    go_wp2
    refine wp_loop_rounds 1 ?_
    rw [rounds_succ]
    go_wp2
    go_ret
    exact ⟨_, rfl, HO.out, HB.out⟩
  · have HC1 : Hid (∀ j (hj : j < zs.length), W.cell? ⟨g1, o1 + j, none⟩ = some (.int .i64 zs[j])) := hc1
    have HG1 : Hid (g1 < H) := by show _ < _; rw [HHW.out]; exact hg1
    clear hc1 hg1
    go_enter Try.func10, Try.ntmps10
    go_wp2
    go_loopw [4] (fun i wr => ∃ k : Nat, k ≤ zs.length ∧ i = .int .i64 k ∧ Own wr H (.slice (some ⟨H, 0, none⟩) zs.length zs.length) (zs.take k ++ List.replicate (zs.length - k) 0) ∧ Below H W wr) (fun i _ => zs.length - (intOf i).toNat)
    case atStart => exact ⟨0, Nat.zero_le _, rfl, by simpa using HO.out, HB.out⟩
    case round =>
      obtain ⟨k, hk, rfl, hown, hbr⟩ := hrel
      by_cases hlt2 : k < zs.length
      · have c1 : wr.cell? ⟨g1, o1 + k, none⟩ = some (.int .i64 zs[k]) := (hbr.cell (p := ⟨g1, o1 + k, none⟩) HG1.out).trans (HC1.out k hlt2)
        have hl2 : (zs.take k ++ List.replicate (zs.length - k) 0).length = zs.length := by simp; omega
        have hown2 : Own wr H (.slice (some ⟨H, 0, none⟩) (zs.take k ++ List.replicate (zs.length - k) 0).length zs.length) (zs.take k ++ List.replicate (zs.length - k) 0) := by rw [hl2]; exact hown
        obtain ⟨c0, hcell⟩ : ∃ c0, wr.cell? ⟨H, k, none⟩ = some c0 := ⟨_, by rw [World.ownsRow.cellAt hown2 k (by omega)]; exact List.getElem?_eq_getElem (by simp; omega)⟩
        have hfz : wr.frozen? ⟨H, k, none⟩ = false := World.ownsRow.frozenAt hown2 k
        have enext : zs.take (k + 1) ++ List.replicate (zs.length - (k + 1)) 0 = (zs.take k ++ List.replicate (zs.length - k) 0).set k zs[k] := by
          have e : zs.length - k = (zs.length - (k + 1)) + 1 := by omega
          rw [e, List.replicate_succ, List.set_append_right _ _ (by simp; omega), List.take_succ_eq_append_getElem hlt2]
          have e2 : k - (zs.take k).length = 0 := by simp; omega
          rw [e2, List.set_cons_zero, List.append_assoc]
          rfl
        have HO1 : Hid (Own (wr.setCell ⟨H, k, none⟩ (.int .i64 zs[k])) H (.slice (some ⟨H, 0, none⟩) zs.length zs.length) (zs.take (k + 1) ++ List.replicate (zs.length - (k + 1)) 0)) := by
          have := hown2.set k zs[k]
          rw [← enext, hl2] at this
          exact this
        have HB1 : Hid (Below H W (wr.setCell ⟨H, k, none⟩ (.int .i64 zs[k]))) := hbr.setCell (Nat.le_refl _) _
        generalize zs[k] = z at *
        have hlt' : (k : Int) < (zs.length : Int) := by omega
        clear hown hown2 hbr enext hl2
        go_wp2
        go_roundw
        case rel => exact ⟨k + 1, by omega, by go_num, HO1.out, HB1.out⟩
        case measure => simp [intOf]; omega
      · have e : k = zs.length := by omega
        subst e
        have HO1 : Hid (Own wr H (.slice (some ⟨H, 0, none⟩) zs.length zs.length) zs) := by
          show Own _ _ _ _
          simpa using hown
        clear hown
        go_wp2
        go_ret
        exact ⟨_, rfl, HO1.out, hbr⟩

/-- Whether all numbers lie between two. -/
def allB (zs : List Int) (lo hi : Int) : Bool := zs.all fun z => decide (lo ≤ z ∧ z ≤ hi)
theorem allB_no (zs : List Int) (lo hi : Int) (k : Nat) (h : k < zs.length) (hz : zs[k] < lo ∨ hi < zs[k]) : allB zs lo hi = false := by
  rw [Bool.eq_false_iff]
  intro e
  have := of_decide_eq_true (List.all_eq_true.1 e _ (List.getElem_mem h))
  omega
theorem allB_yes (zs : List Int) (lo hi : Int) (h : ∀ j (hj : j < zs.length), lo ≤ zs[j] ∧ zs[j] ≤ hi) : allB zs lo hi = true :=
  List.all_eq_true.2 fun z hz => by
    obtain ⟨j, hj, rfl⟩ := List.getElem_of_mem hz
    exact decide_eq_true (h j hj)
theorem allB_at (zs : List Int) (lo hi : Int) (h : allB zs lo hi = true) (j : Nat) (hj : j < zs.length) : lo ≤ zs[j] ∧ zs[j] ≤ hi :=
  of_decide_eq_true (List.all_eq_true.1 h _ (List.getElem_mem hj))

/-- 'l1In'. -/
theorem l1In_any (n lo hi : Int) (w : World) : Calls Try.prog 35 #[.int .i64 n, .int .i64 lo, .int .i64 hi] w fun e w' => e = .returned (.bool (decide (lo ≤ n ∧ n ≤ hi))) ∧ w' = w := by
  by_cases h1 : lo ≤ n
  · have d1 : decide (lo ≤ n) = true := by simp; omega
    by_cases h2 : n ≤ hi
    · have d2 : decide (n ≤ hi) = true := by simp; omega
      have e : decide (lo ≤ n ∧ n ≤ hi) = true := by simp; omega
      rw [e]; clear e
      go_enter Try.func35, Try.ntmps35
      go_wp2
      go_ret
      exact ⟨rfl, rfl⟩
    · have d2 : decide (n ≤ hi) = false := by simp; omega
      have e : decide (lo ≤ n ∧ n ≤ hi) = false := by simp; omega
      rw [e]; clear e
      go_enter Try.func35, Try.ntmps35
      go_wp2
      go_ret
      exact ⟨rfl, rfl⟩
  · have d1 : decide (lo ≤ n) = false := by simp; omega
    have e : decide (lo ≤ n ∧ n ≤ hi) = false := by simp; omega
    rw [e]; clear e
    go_enter Try.func35, Try.ntmps35
    go_wp2
    go_ret
    exact ⟨rfl, rfl⟩

/-- Whether a list can be put into bytes. -/
def numsB (zs : List Int) : Bool := decide (zs.length ≤ 20) && allB zs 0 65535

end Go.Proofs.Ythlbmkefjjckaag
