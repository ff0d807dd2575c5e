/-
  'NearOf' of the program and of the model.
-/
import Derived.Test.YthlbmkefjjckaagGrNearM
namespace Go.Proofs.Ythlbmkefjjckaag
open Go.RowKit
set_option linter.unusedVariables false

set_option maxHeartbeats 1000000 in
theorem costB_any (W : World) (v : Value) (l : List EdD) (a b : Int) (h : ReadsEd W v l) (hl : l.length ≤ 2097152) :
    Calls Try.prog 71 #[v, .int .i64 a, .int .i64 b] W fun e W' => e = .returned (.int .i64 (costB l a b)) ∧ Below W.heap.size W W' := by
  obtain ⟨z, hz⟩ : ∃ z, z = lastEd l (min a b) (max a b) := ⟨_, rfl⟩
  have CL : Hid (∀ x y, x = min a b → y = max a b → Calls Try.prog 86 #[v, .int .i64 x, .int .i64 y] W fun e W' => e = .returned (.int .i64 z) ∧ Below W.heap.size W W') := fun x y hx hy => by
    rw [hz, hx, hy]
    exact lastCostEd_any W v l _ _ h hl
  unfold costB
  rw [← hz]
  obtain ⟨a1, cap1, rfl⟩ := h.shape
  clear hz h
  rcases Int.lt_trichotomy a b with hlt | hlt | hlt
  · have h1 : a ≤ b := by omega
    have h2 : ¬ b ≤ a := by omega
    have hm : Hid (a = min a b) := by show _ = _; omega
    have hM : Hid (b = max a b) := by show _ = _; omega
    clear hlt
    go_enter Try.func71, Try.ntmps71
    go_wp2_with fail
    refine (CL.out a b hm.out hM.out).mono ?_
    rintro e w1 ⟨rfl, hb1⟩
    have HB : Hid (Below W.heap.size W w1) := hb1
    clear hb1
    go_wp2
    go_ret
    exact ⟨rfl, HB.out⟩
  · subst hlt
    have hlt : a = a := rfl
    have h1 : a ≤ a := Int.le_refl _
    have hm : Hid (a = min a a) := by show _ = _; omega
    have hM : Hid (a = max a a) := by show _ = _; omega
    clear hlt
    go_enter Try.func71, Try.ntmps71
    go_wp2_with fail
    refine (CL.out a a hm.out hM.out).mono ?_
    rintro e w1 ⟨rfl, hb1⟩
    have HB : Hid (Below W.heap.size W w1) := hb1
    clear hb1
    go_wp2
    go_ret
    exact ⟨rfl, HB.out⟩
  · have h1 : b ≤ a := by omega
    have h2 : ¬ a ≤ b := by omega
    have hm : Hid (b = min a b) := by show _ = _; omega
    have hM : Hid (a = max a b) := by show _ = _; omega
    clear hlt
    go_enter Try.func71, Try.ntmps71
    go_wp2_with fail
    refine (CL.out b a hm.out hM.out).mono ?_
    rintro e w1 ⟨rfl, hb1⟩
    have HB : Hid (Below W.heap.size W w1) := hb1
    clear hb1
    go_wp2
    go_ret
    exact ⟨rfl, HB.out⟩

end Go.Proofs.Ythlbmkefjjckaag
