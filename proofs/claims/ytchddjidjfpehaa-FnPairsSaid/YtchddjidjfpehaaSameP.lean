/-
  'sameInts', 'sameBools', 'samePair' of the laws.
-/
import Derived.Test.YtchddjidjfpehaaBoolLaw
import Derived.Test.YtchddjidjfpehaaJh
import Derived.BigQuiet
import Derived.Deep.QuietTactic
namespace Go.Proofs.Ytchddjidjfpehaa
open Go.RowKit
set_option linter.unusedVariables false

set_option maxRecDepth 100000 in
set_option maxHeartbeats 1000000 in
theorem sameInts_same (W : World) (v1 v2 : Value) (zs : List Int) (h1 : Reads W v1 zs) (h2 : Reads W v2 zs) (hl : zs.length ≤ 4194304) :
    Calls Try.prog 25 #[v1, v2] W fun e W' => e = .returned (.bool true) ∧ Below W.heap.size W W' := by
  obtain ⟨a1, cap1, rfl, hc1⟩ := h1
  obtain ⟨a2, cap2, rfl, hc2⟩ := h2
  by_cases hz : zs = []
  · subst hz
    simp only [List.length_nil]
    clear hc1 hc2
    go_enter Try.func25, Try.ntmps25
    go_wp2
    refine wp_loop_rounds 1 ?_
    rw [rounds_succ]
    go_wp2
    go_ret
    exact ⟨rfl, Below.refl _ _⟩
  · obtain ⟨g1, o1, rfl, -, hc1⟩ := hc1.resolve_left hz
    obtain ⟨g2, o2, rfl, -, hc2⟩ := hc2.resolve_left hz
    have HC1 : Hid (∀ j (hj : j < zs.length), W.cell? ⟨g1, o1 + j, none⟩ = some (.int .i64 zs[j])) := hc1
    have HC2 : Hid (∀ j (hj : j < zs.length), W.cell? ⟨g2, o2 + j, none⟩ = some (.int .i64 zs[j])) := hc2
    clear hc1 hc2 hz
    go_enter Try.func25, Try.ntmps25
    go_wp2
    go_loopw [13] (fun i wr => ∃ k : Nat, k ≤ zs.length ∧ i = .int .i64 k ∧ ∃ n, wr = W.drewN n) (fun i _ => zs.length - (intOf i).toNat)
    case atStart => exact ⟨0, Nat.zero_le _, rfl, 0, rfl⟩
    case round =>
      obtain ⟨k, hk, rfl, n, rfl⟩ := hrel
      by_cases hlt : k < zs.length
      · have c1 : W.cell? ⟨g1, o1 + k, none⟩ = some (.int .i64 zs[k]) := HC1.out k hlt
        have c2 : W.cell? ⟨g2, o2 + k, none⟩ = some (.int .i64 zs[k]) := HC2.out k hlt
        generalize zs[k] = z at c1 c2
        have hlt' : (k : Int) < (zs.length : Int) := by omega
        go_wp2
        go_quiet (fail)
        go_wp2
        go_roundw
        case rel => exact ⟨k + 1, by omega, by go_num, _, rfl⟩
        case measure => simp [intOf]; omega
      · have hlt' : ¬ (k : Int) < (zs.length : Int) := by omega
        go_wp2
        go_ret
        exact ⟨rfl, below_drewN (Below.refl _ _) _⟩

set_option maxRecDepth 100000 in
set_option maxHeartbeats 1000000 in
theorem sameBools_same (W : World) (v1 v2 : Value) (zs : List Bool) (h1 : ReadsBo W v1 zs) (h2 : ReadsBo W v2 zs) (hl : zs.length ≤ 4194304) :
    Calls Try.prog 19 #[v1, v2] W fun e W' => e = .returned (.bool true) ∧ Below W.heap.size W W' := by
  obtain ⟨a1, cap1, rfl, hc1⟩ := h1
  obtain ⟨a2, cap2, rfl, hc2⟩ := h2
  by_cases hz : zs = []
  · subst hz
    simp only [List.length_nil]
    clear hc1 hc2
    go_enter Try.func19, Try.ntmps19
    go_wp2
    refine wp_loop_rounds 1 ?_
    rw [rounds_succ]
    go_wp2
    go_ret
    exact ⟨rfl, Below.refl _ _⟩
  · obtain ⟨g1, o1, rfl, -, hc1⟩ := hc1.resolve_left hz
    obtain ⟨g2, o2, rfl, -, hc2⟩ := hc2.resolve_left hz
    have HC1 : Hid (∀ j (hj : j < zs.length), W.cell? ⟨g1, o1 + j, none⟩ = some (.bool zs[j])) := hc1
    have HC2 : Hid (∀ j (hj : j < zs.length), W.cell? ⟨g2, o2 + j, none⟩ = some (.bool zs[j])) := hc2
    clear hc1 hc2 hz
    go_enter Try.func19, Try.ntmps19
    go_wp2
    go_loopw [13] (fun i wr => ∃ k : Nat, k ≤ zs.length ∧ i = .int .i64 k ∧ ∃ n, wr = W.drewN n) (fun i _ => zs.length - (intOf i).toNat)
    case atStart => exact ⟨0, Nat.zero_le _, rfl, 0, rfl⟩
    case round =>
      obtain ⟨k, hk, rfl, n, rfl⟩ := hrel
      by_cases hlt : k < zs.length
      · have c1 : W.cell? ⟨g1, o1 + k, none⟩ = some (.bool zs[k]) := HC1.out k hlt
        have c2 : W.cell? ⟨g2, o2 + k, none⟩ = some (.bool zs[k]) := HC2.out k hlt
        generalize zs[k] = z at c1 c2
        have hlt' : (k : Int) < (zs.length : Int) := by omega
        go_wp2
        go_quiet (fail)
        go_wp2
        go_roundw
        case rel => exact ⟨k + 1, by omega, by go_num, _, rfl⟩
        case measure => simp [intOf]; omega
      · have hlt' : ¬ (k : Int) < (zs.length : Int) := by omega
        go_wp2
        go_ret
        exact ⟨rfl, below_drewN (Below.refl _ _) _⟩

set_option maxRecDepth 100000 in
set_option maxHeartbeats 2000000 in
theorem samePair_same (W : World) (x y z x' y' z' : Value) (p : PR) (h : Reads3 W x y z p) (h' : Reads3 W x' y' z' p) (h1 : p.st.length ≤ 1048576) (h2 : p.lf.length ≤ 1048576) (h3 : p.ln.length ≤ 1048576) :
    Calls Try.prog 20 #[.agg #[x, y, z], .agg #[x', y', z']] W fun e W' => e = .returned (.bool true) ∧ Below W.heap.size W W' := by
  obtain ⟨a1, c1, rfl⟩ := h.st.shape
  obtain ⟨a2, c2, rfl⟩ := h.lf.shape
  obtain ⟨a3, c3, rfl⟩ := h.ln.shape
  obtain ⟨b1, d1, rfl⟩ := h'.st.shape
  obtain ⟨b2, d2, rfl⟩ := h'.lf.shape
  obtain ⟨b3, d3, rfl⟩ := h'.ln.shape
  have HR : Hid (∀ W1, Below W.heap.size W W1 → Reads3 W1 (.slice a1 p.st.length c1) (.slice a2 p.lf.length c2) (.slice a3 p.ln.length c3) p) := fun W1 hb => h.below hb
  have HR' : Hid (∀ W1, Below W.heap.size W W1 → Reads3 W1 (.slice b1 p.st.length d1) (.slice b2 p.lf.length d2) (.slice b3 p.ln.length d3) p) := fun W1 hb => h'.below hb
  have HB0 : Hid (Below W.heap.size W ((W.alloc (.cells #[.slice a1 p.st.length c1, .slice a2 p.lf.length c2, .slice a3 p.ln.length c3] 40)).alloc (.cells #[.slice b1 p.st.length d1, .slice b2 p.lf.length d2, .slice b3 p.ln.length d3] 40))) := ((Below.refl _ W).alloc (Nat.le_refl _) _).alloc (by simp) _
  have HX0 : Hid (Bx3 ((W.alloc (.cells #[.slice a1 p.st.length c1, .slice a2 p.lf.length c2, .slice a3 p.ln.length c3] 40)).alloc (.cells #[.slice b1 p.st.length d1, .slice b2 p.lf.length d2, .slice b3 p.ln.length d3] 40)) W.heap.size (.slice a1 p.st.length c1) (.slice a2 p.lf.length c2) (.slice a3 p.ln.length c3)) := (Bx3.new _ _ _ _ _).below ((Below.refl _ _).alloc (Nat.le_refl _) _)
  have HY0 : Hid (Bx3 ((W.alloc (.cells #[.slice a1 p.st.length c1, .slice a2 p.lf.length c2, .slice a3 p.ln.length c3] 40)).alloc (.cells #[.slice b1 p.st.length d1, .slice b2 p.lf.length d2, .slice b3 p.ln.length d3] 40)) (W.heap.size + 1) (.slice b1 p.st.length d1) (.slice b2 p.lf.length d2) (.slice b3 p.ln.length d3)) := by
    have := Bx3.new (W.alloc (.cells #[.slice a1 p.st.length c1, .slice a2 p.lf.length c2, .slice a3 p.ln.length c3] 40)) (.slice b1 p.st.length d1) (.slice b2 p.lf.length d2) (.slice b3 p.ln.length d3) 40
    exact (show Bx3 _ _ _ _ _ by simpa using this)
  have H1 : Hid (p.st.length ≤ 4194304) := by show _ ≤ _; omega
  have H2 : Hid (p.lf.length ≤ 4194304) := by show _ ≤ _; omega
  clear h h' h1 h2
  go_enter Try.func20, Try.ntmps20
  go_wp2_with fail
  refine (sameInts_same _ _ _ p.st (HR.out _ HB0.out).st (HR'.out _ HB0.out).st H1.out).mono ?_
  rintro e w1 ⟨rfl, hb1⟩
  have HB1 : Hid (Below W.heap.size W w1) := HB0.out.trans (hb1.mono (by simp; omega))
  have HX1 : Hid (Bx3 w1 W.heap.size (.slice a1 p.st.length c1) (.slice a2 p.lf.length c2) (.slice a3 p.ln.length c3)) := HX0.out.below hb1
  have HY1 : Hid (Bx3 w1 (W.heap.size + 1) (.slice b1 p.st.length d1) (.slice b2 p.lf.length d2) (.slice b3 p.ln.length d3)) := HY0.out.below hb1
  clear hb1 HB0 HX0 HY0
  have x0 := HX1.out.c0
  have x1 := HX1.out.c1
  have x2 := HX1.out.c2
  have y0 := HY1.out.c0
  have y1 := HY1.out.c1
  have y2 := HY1.out.c2
  go_wp2_with fail
  refine (sameInts_same _ _ _ p.lf (HR.out _ HB1.out).lf (HR'.out _ HB1.out).lf H2.out).mono ?_
  rintro e w2 ⟨rfl, hb2⟩
  have HB2 : Hid (Below W.heap.size W w2) := HB1.out.trans (hb2.mono HB1.out.size)
  have HX2 : Hid (Bx3 w2 W.heap.size (.slice a1 p.st.length c1) (.slice a2 p.lf.length c2) (.slice a3 p.ln.length c3)) := HX1.out.below hb2
  have HY2 : Hid (Bx3 w2 (W.heap.size + 1) (.slice b1 p.st.length d1) (.slice b2 p.lf.length d2) (.slice b3 p.ln.length d3)) := HY1.out.below hb2
  clear hb2 HB1 HX1 HY1 x0 x1 x2 y0 y1 y2
  have x0 := HX2.out.c0
  have x1 := HX2.out.c1
  have x2 := HX2.out.c2
  have y0 := HY2.out.c0
  have y1 := HY2.out.c1
  have y2 := HY2.out.c2
  have HL1 : Hid (∀ j (hj : j < p.ln.length), ∃ g o, a3 = some ⟨g, o, none⟩ ∧ HelloAt w2 g (o + j * 2) p.ln[j]) := fun j hj => by
    obtain ⟨a', c', e', hcc⟩ := (HR.out _ HB2.out).ln
    have ea : a3 = a' := by simp at e'; exact e'.1
    rcases hcc with e | ⟨g, o, ha, hg, hc⟩
    · rw [e] at hj; simp at hj
    · exact ⟨g, o, ea.trans ha, hc j hj⟩
  have HL2 : Hid (∀ j (hj : j < p.ln.length), ∃ g o, b3 = some ⟨g, o, none⟩ ∧ HelloAt w2 g (o + j * 2) p.ln[j]) := fun j hj => by
    obtain ⟨a', c', e', hcc⟩ := (HR'.out _ HB2.out).ln
    have ea : b3 = a' := by simp at e'; exact e'.1
    rcases hcc with e | ⟨g, o, ha, hg, hc⟩
    · rw [e] at hj; simp at hj
    · exact ⟨g, o, ea.trans ha, hc j hj⟩
  go_wp2
  go_loopw [32] (fun i wr => ∃ k : Nat, k ≤ p.ln.length ∧ i = .int .i64 k ∧ ∃ n, wr = w2.drewN n) (fun i _ => p.ln.length - (intOf i).toNat)
  case atStart => exact ⟨0, Nat.zero_le _, rfl, 0, rfl⟩
  case round =>
    obtain ⟨k, hk, rfl, n, rfl⟩ := hrel
    by_cases hlt : k < p.ln.length
    · obtain ⟨g1, o1, rfl, q0, q1⟩ := HL1.out k hlt
      obtain ⟨g2, o2, rfl, r0, r1⟩ := HL2.out k hlt
      generalize p.ln[k] = x at q0 q1 r0 r1
      have hlt' : (k : Int) < (p.ln.length : Int) := by omega
      go_wp2
      go_quiet (fail)
      go_wp2
      go_roundw
      case rel => exact ⟨k + 1, by omega, by go_num, _, rfl⟩
      case measure => simp [intOf]; omega
    · have hlt' : ¬ (k : Int) < (p.ln.length : Int) := by omega
      go_wp2
      go_ret
      exact ⟨rfl, below_drewN HB2.out _⟩
end Go.Proofs.Ytchddjidjfpehaa
