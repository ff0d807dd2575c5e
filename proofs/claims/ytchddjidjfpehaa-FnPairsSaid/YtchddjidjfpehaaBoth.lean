/-
  'AreBoth', the program's and the model's.
-/
import Derived.Test.YtchddjidjfpehaaGoodSpec
namespace Go.Proofs.Ytchddjidjfpehaa
open Go.RowKit

def bothS (st : List Int) : Bool := match st with
  | [s0, s1] => s0 == 2 && s1 == 2
  | _ => false
def bothB (p : PR) : Bool := goodPr p && bothS p.st

set_option maxRecDepth 100000 in
set_option maxHeartbeats 1000000 in
theorem implBoth_any (W : World) (x y z : Value) (p : PR) (h : Reads3 W x y z p) (h1 : p.st.length ≤ 1048576) (h2 : p.lf.length ≤ 1048576) (h3 : p.ln.length ≤ 1048576) :
    Calls Try.prog 22 #[.agg #[x, y, z]] W fun e W' => e = .returned (.tuple #[.bool (bothB p), .bool (goodPr p)]) ∧ Below W.heap.size W W' := by
  obtain ⟨a1, c1, rfl, hc1⟩ := h.st
  obtain ⟨a2, c2, rfl⟩ := h.lf.shape
  obtain ⟨a3, c3, rfl⟩ := h.ln.shape
  have HR : Hid (∀ W1, Since W.heap.size W W1 → Reads3 W1 (.slice a1 p.st.length c1) (.slice a2 p.lf.length c2) (.slice a3 p.ln.length c3) p) := fun W1 hb => h.below hb.1
  have HS0 : Hid (Since W.heap.size W (W.alloc (.cells #[.slice a1 p.st.length c1, .slice a2 p.lf.length c2, .slice a3 p.ln.length c3] 40))) := (Since.start W).step ((Below.refl _ W).alloc (Nat.le_refl _) _)
  have HX0 : Hid (Bx3 (W.alloc (.cells #[.slice a1 p.st.length c1, .slice a2 p.lf.length c2, .slice a3 p.ln.length c3] 40)) W.heap.size (.slice a1 p.st.length c1) (.slice a2 p.lf.length c2) (.slice a3 p.ln.length c3)) := Bx3.new _ _ _ _ _
  cases hg : goodPr p with
  | false =>
    have hb : bothB p = false := by unfold bothB; rw [hg]; rfl
    rw [hb]
    have HG : Hid (goodPr p = false) := hg
    clear hg hb hc1 h
    go_enter Try.func22, Try.ntmps22
    go_wp2_with fail
    refine (implGoodPair_any _ _ _ _ p (HR.out _ HS0.out) h1 h2 h3).mono ?_
    rintro e w1 ⟨rfl, hb1⟩
    rw [HG.out]
    have HS1 : Hid (Since W.heap.size W w1) := HS0.out.step hb1
    clear hb1
    go_wp2
    go_ret2
    exact ⟨rfl, HS1.out.1⟩
  | true =>
    have HG : Hid (goodPr p = true) := hg
    obtain ⟨s0, s1, l0, l1, ln, rfl, g0, g1, hl, hL⟩ := goodPr_form p hg
    obtain ⟨g, o, rfl, hgl, hc1⟩ := hc1.resolve_left (by simp)
    have k0 := hc1 0 (by simp)
    have k1 := hc1 1 (by simp)
    simp only [Nat.add_zero, List.getElem_cons_zero, List.getElem_cons_succ] at k0 k1
    have hb : bothB ⟨[s0, s1], [l0, l1], ln⟩ = (s0 == 2 && s1 == 2) := by unfold bothB; rw [hg]; rfl
    rw [hb]
    have HK : Hid (∀ W1, Below W.heap.size W W1 → W1.cell? ⟨g, o, none⟩ = some (.int .i64 s0) ∧ W1.cell? ⟨g, o + 1, none⟩ = some (.int .i64 s1)) := fun W1 hb => ⟨(hb.cell (p := ⟨g, o, none⟩) hgl).trans k0, (hb.cell (p := ⟨g, o + 1, none⟩) hgl).trans k1⟩
    clear hg hb hc1 h k0 k1 g0 g1 hl hL
    go_enter Try.func22, Try.ntmps22
    go_wp2_with fail
    refine (implGoodPair_any _ _ _ _ _ (HR.out _ HS0.out) h1 h2 h3).mono ?_
    rintro e w1 ⟨rfl, hb1⟩
    rw [HG.out]
    have HS1 : Hid (Since W.heap.size W w1) := HS0.out.step hb1
    obtain ⟨-, x0, x1, x2, -⟩ := HX0.out.below hb1
    obtain ⟨k0, k1⟩ := HK.out _ HS1.out.1
    simp only [List.length_cons, List.length_nil, Nat.zero_add, Nat.reduceAdd] at *
    clear hb1
    by_cases e0 : s0 = 2
    · go_wp2
      all_goals
        go_ret2
        exact ⟨by subst e0; rfl, HS1.out.1⟩
    · have HE : Hid ((s0 == 2) = false) := by show _ = _; simpa using e0
      go_wp2
      all_goals
        go_ret2
        exact ⟨by rw [HE.out]; rfl, HS1.out.1⟩

set_option maxRecDepth 100000 in
set_option maxHeartbeats 1000000 in
theorem specBoth_any (W : World) (x y z : Value) (p : PR) (h : Reads3 W x y z p) (h1 : p.st.length ≤ 1048576) (h2 : p.lf.length ≤ 1048576) (h3 : p.ln.length ≤ 1048576) :
    Calls Try.prog 34 #[.agg #[x, y, z]] W fun e W' => e = .returned (.tuple #[.bool (bothB p), .bool (goodPr p)]) ∧ Below W.heap.size W W' := by
  obtain ⟨a1, c1, rfl, hc1⟩ := h.st
  obtain ⟨a2, c2, rfl⟩ := h.lf.shape
  obtain ⟨a3, c3, rfl⟩ := h.ln.shape
  have HR : Hid (∀ W1, Since W.heap.size W W1 → Reads3 W1 (.slice a1 p.st.length c1) (.slice a2 p.lf.length c2) (.slice a3 p.ln.length c3) p) := fun W1 hb => h.below hb.1
  have HS0 : Hid (Since W.heap.size W (W.alloc (.cells #[.slice a1 p.st.length c1, .slice a2 p.lf.length c2, .slice a3 p.ln.length c3] 40))) := (Since.start W).step ((Below.refl _ W).alloc (Nat.le_refl _) _)
  have HX0 : Hid (Bx3 (W.alloc (.cells #[.slice a1 p.st.length c1, .slice a2 p.lf.length c2, .slice a3 p.ln.length c3] 40)) W.heap.size (.slice a1 p.st.length c1) (.slice a2 p.lf.length c2) (.slice a3 p.ln.length c3)) := Bx3.new _ _ _ _ _
  cases hg : goodPr p with
  | false =>
    have hb : bothB p = false := by unfold bothB; rw [hg]; rfl
    rw [hb]
    have HG : Hid (goodPr p = false) := hg
    clear hg hb hc1 h
    go_enter Try.func34, Try.ntmps34
    go_wp2_with fail
    refine (specGoodPair_any _ _ _ _ p (HR.out _ HS0.out) h1 h2 h3).mono ?_
    rintro e w1 ⟨rfl, hb1⟩
    rw [HG.out]
    have HS1 : Hid (Since W.heap.size W w1) := HS0.out.step hb1
    clear hb1
    go_wp2
    go_ret2
    exact ⟨rfl, HS1.out.1⟩
  | true =>
    have HG : Hid (goodPr p = true) := hg
    obtain ⟨s0, s1, l0, l1, ln, rfl, g0, g1, hl, hL⟩ := goodPr_form p hg
    obtain ⟨g, o, rfl, hgl, hc1⟩ := hc1.resolve_left (by simp)
    have k0 := hc1 0 (by simp)
    have k1 := hc1 1 (by simp)
    simp only [Nat.add_zero, List.getElem_cons_zero, List.getElem_cons_succ] at k0 k1
    have hb : bothB ⟨[s0, s1], [l0, l1], ln⟩ = (s0 == 2 && s1 == 2) := by unfold bothB; rw [hg]; rfl
    rw [hb]
    have HK : Hid (∀ W1, Below W.heap.size W W1 → W1.cell? ⟨g, o, none⟩ = some (.int .i64 s0) ∧ W1.cell? ⟨g, o + 1, none⟩ = some (.int .i64 s1)) := fun W1 hb => ⟨(hb.cell (p := ⟨g, o, none⟩) hgl).trans k0, (hb.cell (p := ⟨g, o + 1, none⟩) hgl).trans k1⟩
    clear hg hb hc1 h k0 k1 g0 g1 hl hL
    go_enter Try.func34, Try.ntmps34
    go_wp2_with fail
    refine (specGoodPair_any _ _ _ _ _ (HR.out _ HS0.out) h1 h2 h3).mono ?_
    rintro e w1 ⟨rfl, hb1⟩
    rw [HG.out]
    have HS1 : Hid (Since W.heap.size W w1) := HS0.out.step hb1
    obtain ⟨-, x0, x1, x2, -⟩ := HX0.out.below hb1
    obtain ⟨k0, k1⟩ := HK.out _ HS1.out.1
    simp only [List.length_cons, List.length_nil, Nat.zero_add, Nat.reduceAdd] at *
    clear hb1
    by_cases e0 : s0 = 2
    · go_wp2
      all_goals
        go_ret2
        exact ⟨by subst e0; rfl, HS1.out.1⟩
    · have HE : Hid ((s0 == 2) = false) := by show _ = _; simpa using e0
      go_wp2
      all_goals
        go_ret2
        exact ⟨by rw [HE.out]; rfl, HS1.out.1⟩

end Go.Proofs.Ytchddjidjfpehaa
