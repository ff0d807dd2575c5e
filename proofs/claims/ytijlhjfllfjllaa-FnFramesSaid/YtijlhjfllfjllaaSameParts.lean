/-
  What the laws' 'sameInts' and 'sameParts' answer of two lists that are alike.
-/
import Derived.Test.YtijlhjfllfjllaaLawParts
import Derived.Test.YtijlhjfllfjllaaEqInts
import Derived.BigQuiet
import Derived.Deep.QuietTactic
namespace Go.Proofs.Ytijlhjfllfjllaa
open Go.RowKit

set_option maxRecDepth 100000 in
set_option maxHeartbeats 1000000 in
/-- Two slices of the same numbers, told the laws' other way. -/
theorem sameInts_same (W : World) (v1 v2 : Value) (zs : List Int) (h1 : Reads W v1 zs) (h2 : Reads W v2 zs) (hl : zs.length ≤ 4194304) :
    Calls Try.prog 25 #[v1, v2] W fun e W' => e = .returned (.bool true) ∧ ∃ n, W' = W.drewN n := by
  obtain ⟨a1, cap1, rfl, hc1⟩ := h1
  obtain ⟨a2, cap2, rfl, hc2⟩ := h2
  rcases hc1 with rfl | ⟨g1, o1, rfl, -, hc1⟩
  · simp only [List.length_nil]
    clear hc2
    go_enter Try.func25, Try.ntmps25
    go_wp2
    refine wp_loop_rounds 1 ?_
    rw [rounds_succ]
    go_wp2
    go_ret
    exact ⟨rfl, 0, rfl⟩
  · rcases hc2 with rfl | ⟨g2, o2, rfl, -, hc2⟩
    · simp only [List.length_nil]
      clear hc1
      go_enter Try.func25, Try.ntmps25
      go_wp2
      refine wp_loop_rounds 1 ?_
      rw [rounds_succ]
      go_wp2
      go_ret
      exact ⟨rfl, 0, rfl⟩
    · have HC1 : Hid (∀ j (hj : j < zs.length), W.cell? ⟨g1, o1 + j, none⟩ = some (.int .i64 zs[j])) := hc1
      have HC2 : Hid (∀ j (hj : j < zs.length), W.cell? ⟨g2, o2 + j, none⟩ = some (.int .i64 zs[j])) := hc2
      clear hc1 hc2
      go_enter Try.func25, Try.ntmps25
      go_wp2
      go_loopw [13] (fun i wr => ∃ k : Nat, k ≤ zs.length ∧ i = .int .i64 k ∧ ∃ n, wr = W.drewN n) (fun i _ => zs.length - (intOf i).toNat)
      case atStart => exact ⟨0, Nat.zero_le _, rfl, 0, rfl⟩
      case round =>
        obtain ⟨k, hk, rfl, n, rfl⟩ := hrel
        by_cases hlt : k < zs.length
        · have c1 : W.cell? ⟨g1, o1 + k, none⟩ = some (.int .i64 zs[k]) := HC1.out k hlt
          have c2 : W.cell? ⟨g2, o2 + k, none⟩ = some (.int .i64 zs[k]) := HC2.out k hlt
          generalize zs[k] = z at c1 c2
          have hlt' : (k : Int) < (zs.length : Int) := by omega
          go_wp2
          go_quiet (fail)
          go_wp2
          go_roundw
          case rel => exact ⟨k + 1, by omega, by go_num, _, rfl⟩
          case measure => simp [intOf]; omega
        · go_wp2
          go_ret
          exact ⟨rfl, _, rfl⟩

set_option maxRecDepth 100000 in
set_option maxHeartbeats 2000000 in
theorem sameParts_same (W : World) (v1 v2 : Value) (ps : List PD) (h1 : ReadsP W v1 ps) (h2 : ReadsP W v2 ps) (hl : ps.length ≤ 1048576) (hf : ∀ j (hj : j < ps.length), Fit ps[j]) :
    Calls Try.prog 10 #[v1, v2] W fun e W' => e = .returned (.bool true) ∧ Below W.heap.size W W' := by
  obtain ⟨a1, cap1, rfl, hc1⟩ := h1
  obtain ⟨a2, cap2, rfl, hc2⟩ := h2
  by_cases hz : ps = []
  · subst hz
    simp only [List.length_nil]
    clear hc1 hc2 hf
    go_enter Try.func10, Try.ntmps10
    go_wp2
    refine wp_loop_rounds 1 ?_
    rw [rounds_succ]
    go_wp2
    go_ret
    exact ⟨rfl, Below.refl _ _⟩
  · obtain ⟨g1, o1, rfl, hg1, hc1⟩ := hc1.resolve_left hz
    obtain ⟨g2, o2, rfl, hg2, hc2⟩ := hc2.resolve_left hz
    have HC1 : Hid (∀ W1, Since W.heap.size W W1 → ∀ j (hj : j < ps.length), PartAt W1 g1 (o1 + j * 3) ps[j]) := fun W1 hS j hj => (hc1 j hj).below hg1 hS.1
    have HC2 : Hid (∀ W1, Since W.heap.size W W1 → ∀ j (hj : j < ps.length), PartAt W1 g2 (o2 + j * 3) ps[j]) := fun W1 hS j hj => (hc2 j hj).below hg2 hS.1
    have HF : Hid (∀ j (hj : j < ps.length), Fit ps[j]) := hf
    have HS0 : Hid (Since W.heap.size W W) := Since.start W
    clear hc1 hc2 hf hz
    go_enter Try.func10, Try.ntmps10
    go_wp2
    go_loopw [13] (fun i wr => ∃ k : Nat, k ≤ ps.length ∧ i = .int .i64 k ∧ Hid (Since W.heap.size W wr)) (fun i _ => ps.length - (intOf i).toNat)
    case atStart => exact ⟨0, Nat.zero_le _, rfl, HS0⟩
    case round =>
      obtain ⟨k, hk, rfl, HS⟩ := hrel
      by_cases hlt : k < ps.length
      · obtain ⟨x1, q0, q1, q2, hr1⟩ := HC1.out wr HS.out k hlt
        obtain ⟨x2, r0, r1, r2, hr2⟩ := HC2.out wr HS.out k hlt
        obtain ⟨a3, c3, rfl⟩ := hr1.shape
        obtain ⟨a4, c4, rfl⟩ := hr2.shape
        have HR1 : Hid (∀ W1, Below wr.heap.size wr W1 → Reads W1 (.slice a3 ps[k].zs.length c3) ps[k].zs) := fun _ hb => hr1.below hb
        have HR2 : Hid (∀ W1, Below wr.heap.size wr W1 → Reads W1 (.slice a4 ps[k].zs.length c4) ps[k].zs) := fun _ hb => hr2.below hb
        have HFk : Hid (ps[k].zs.length ≤ 4194304) := by have := (HF.out k hlt).2; show _ ≤ _; omega
        have hlt' : (k : Int) < (ps.length : Int) := by omega
        have HD : Hid (Below wr.heap.size wr wr.drew) := (Below.refl _ wr).drew
        clear hr1 hr2
        generalize ps[k] = p at *
        go_wp2
        go_quiet (first | (go_at_call 25; refine Calls.quiet_of (sameInts_same _ _ _ p.zs (HR1.out _ (by first | exact Below.refl _ _ | exact (Below.refl _ _).drew | exact below_drewN (Below.refl _ _) _)) (HR2.out _ (by first | exact Below.refl _ _ | exact (Below.refl _ _).drew | exact below_drewN (Below.refl _ _) _)) HFk.out)))
        go_wp2
        go_roundw
        case rel => exact ⟨k + 1, by omega, by go_num, HS.out.drewN _⟩
        case measure => simp [intOf]; omega
      · have hlt' : ¬ (k : Int) < (ps.length : Int) := by omega
        go_wp2
        go_ret
        exact ⟨rfl, HS.out.1⟩
end Go.Proofs.Ytijlhjfllfjllaa
