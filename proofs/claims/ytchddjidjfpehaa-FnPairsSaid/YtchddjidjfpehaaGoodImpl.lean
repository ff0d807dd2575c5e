/-
  'GoodPair' of the program.
-/
import Derived.Test.YtchddjidjfpehaaSideOf
namespace Go.Proofs.Ytchddjidjfpehaa
open Go.RowKit

/-- The three tests of lengths. -/
theorem goodPr_len (p : PR) (h : ¬ (p.st.length = 2 ∧ p.lf.length = 2 ∧ p.ln.length ≤ 12)) : goodPr p = false := by
  unfold goodPr
  by_cases e : p.st.length = 2 ∧ p.lf.length = 2
  · have : ¬ p.ln.length ≤ 12 := fun h3 => h ⟨e.1, e.2, h3⟩
    rw [decide_eq_false this, Bool.false_and, Bool.and_false]
  · rw [goodT_len _ _ e, Bool.false_and]

set_option maxRecDepth 100000 in
set_option maxHeartbeats 4000000 in
theorem implGoodPair_any (W : World) (x y z : Value) (p : PR) (h : Reads3 W x y z p) (h1 : p.st.length ≤ 1048576) (h2 : p.lf.length ≤ 1048576) (h3 : p.ln.length ≤ 1048576) :
    Calls Try.prog 23 #[.agg #[x, y, z]] W fun e W' => e = .returned (.bool (goodPr p)) ∧ Below W.heap.size W W' := by
  obtain ⟨a1, c1, rfl⟩ := h.st.shape
  obtain ⟨a2, c2, rfl⟩ := h.lf.shape
  have hln := h.ln
  obtain ⟨a3, c3, rfl, hc3⟩ := hln
  by_cases hlen : p.st.length = 2 ∧ p.lf.length = 2 ∧ p.ln.length ≤ 12
  · obtain ⟨e1, e2, e3⟩ := hlen
    obtain ⟨st, lf, ln⟩ := p
    simp only at e1 e2 e3 h hc3 ⊢
    obtain ⟨s0, s1, rfl⟩ := two_of st e1
    obtain ⟨l0, l1, rfl⟩ := two_of lf e2
    clear e1 e2 h1 h2 h3
    have HR : Hid (∀ W1, Since W.heap.size W W1 → Reads3 W1 (.slice a1 2 c1) (.slice a2 2 c2) (.slice a3 ln.length c3) ⟨[s0, s1], [l0, l1], ln⟩) := fun W1 hb => h.below hb.1
    have HS0 : Hid (Since W.heap.size W (W.alloc (.cells #[.slice a1 2 c1, .slice a2 2 c2, .slice a3 ln.length c3] 40))) := (Since.start W).step ((Below.refl _ W).alloc (Nat.le_refl _) _)
    have HX0 : Hid (Bx3 (W.alloc (.cells #[.slice a1 2 c1, .slice a2 2 c2, .slice a3 ln.length c3] 40)) W.heap.size (.slice a1 2 c1) (.slice a2 2 c2) (.slice a3 ln.length c3)) := Bx3.new _ _ _ _ _
    have HE : Hid (goodPr ⟨[s0, s1], [l0, l1], ln⟩ = ((goodS s0 l0 && goodS s1 l1) && goodL ln)) := by
      show _ = _
      unfold goodPr
      simp only [goodT, decide_eq_true e3, Bool.true_and]
    have HC3 : Hid (ln = [] ∨ ∃ g off, a3 = some ⟨g, off, none⟩ ∧ g < W.heap.size ∧ ∀ j (hj : j < ln.length), HelloAt W g (off + j * 2) ln[j]) := hc3
    have d3 : ¬ (12 : Int) < (ln.length : Int) := by omega
    simp only [List.length_cons, List.length_nil, Nat.zero_add, Nat.reduceAdd] at *
    clear h hc3
    rw [HE.out]
    go_enter Try.func23, Try.ntmps23
    go_wp2
    refine wp_loop_rounds 3 ?_
    rw [rounds_succ]
    go_wp2_with fail
    refine (sideOf_any _ _ _ _ ⟨[s0, s1], [l0, l1], ln⟩ 0 (HR.out _ HS0.out) (by simp) (by simp)).mono ?_
    rintro e w1 ⟨rfl, hb1⟩
    have HS1 : Hid (Since W.heap.size W w1) := HS0.out.step hb1
    have HX1 : Hid (Bx3 w1 W.heap.size (.slice a1 2 c1) (.slice a2 2 c2) (.slice a3 ln.length c3)) := HX0.out.below hb1
    clear hb1 HS0 HX0
    simp only [List.getElem_cons_zero]
    go_wp2_with fail
    refine (isGood_any s0 l0 w1).mono ?_
    rintro e w2 ⟨rfl, hb2⟩
    have HS2 : Hid (Since W.heap.size W w2) := HS1.out.step hb2
    have HX2 : Hid (Bx3 w2 W.heap.size (.slice a1 2 c1) (.slice a2 2 c2) (.slice a3 ln.length c3)) := HX1.out.below hb2
    clear hb2 HS1 HX1
    cases hg0 : goodS s0 l0 with
    | false =>
      have HF : Hid ((goodS s0 l0 && goodS s1 l1 && goodL ln) = false) := by show _ = _; rw [hg0]; simp
      clear hg0
      go_wp2
      go_ret
      exact ⟨ret_bool (by rw [← HF.out]), HS2.out.1⟩
    | true =>
      have HG0 : Hid (goodS s0 l0 = true) := hg0
      clear hg0
      have x0 := HX2.out.c0
      have x1 := HX2.out.c1
      have x2 := HX2.out.c2
      go_wp2
      rw [rounds_succ]
      go_wp2_with fail
      refine (sideOf_any _ _ _ _ ⟨[s0, s1], [l0, l1], ln⟩ 1 (HR.out _ HS2.out) (by simp) (by simp)).mono ?_
      rintro e w3 ⟨rfl, hb3⟩
      have HS3 : Hid (Since W.heap.size W w3) := HS2.out.step hb3
      have HX3 : Hid (Bx3 w3 W.heap.size (.slice a1 2 c1) (.slice a2 2 c2) (.slice a3 ln.length c3)) := HX2.out.below hb3
      clear hb3 HS2 HX2 x0 x1 x2
      simp only [List.getElem_cons_zero, List.getElem_cons_succ]
      go_wp2_with fail
      refine (isGood_any s1 l1 w3).mono ?_
      rintro e w4 ⟨rfl, hb4⟩
      have HS4 : Hid (Since W.heap.size W w4) := HS3.out.step hb4
      have HX4 : Hid (Bx3 w4 W.heap.size (.slice a1 2 c1) (.slice a2 2 c2) (.slice a3 ln.length c3)) := HX3.out.below hb4
      clear hb4 HS3 HX3
      cases hg1 : goodS s1 l1 with
      | false =>
        have HF : Hid ((goodS s0 l0 && goodS s1 l1 && goodL ln) = false) := by show _ = _; rw [hg1]; simp
        clear hg1
        go_wp2
        go_ret
        exact ⟨ret_bool (by rw [← HF.out]), HS4.out.1⟩
      | true =>
        have HG1 : Hid ((goodS s0 l0 && goodS s1 l1 && goodL ln) = goodL ln) := by show _ = _; rw [HG0.out, hg1]; simp
        clear hg1
        have x0 := HX4.out.c0
        have x1 := HX4.out.c1
        have x2 := HX4.out.c2
        go_wp2
        rw [rounds_succ]
        go_wp2
        rcases HC3.out with hnil | ⟨g, off, ha, hg, hcell⟩
        · subst hnil
          simp only [List.length_nil]
          refine wp_loop_rounds 1 ?_
          rw [rounds_succ]
          go_wp2
          go_ret
          exact ⟨ret_bool (by rw [HG1.out]; rfl), HS4.out.1⟩
        · subst ha
          have HC : Hid (∀ W1, Since W.heap.size W W1 → ∀ j (hj : j < ln.length), HelloAt W1 g (off + j * 2) ln[j]) := fun W1 hS j hj => (hcell j hj).below hg hS.1
          clear hcell HC3 HR HE x0 x1 x2 HX4
          go_loopw [34] (fun i wr => ∃ k : Nat, k ≤ ln.length ∧ i = .int .i64 k ∧ Hid (∀ j (hj : j < ln.length), j < k → sideB ln[j].f = true) ∧ Hid (Since W.heap.size W wr)) (fun i _ => ln.length - (intOf i).toNat)
          case atStart => exact ⟨0, Nat.zero_le _, rfl, fun j hj h => absurd h (Nat.not_lt_zero _), HS4⟩
          case round =>
            obtain ⟨k, hk, rfl, HA, HS⟩ := hrel
            by_cases hlt : k < ln.length
            · obtain ⟨q0, q1⟩ := HC.out wr HS.out k hlt
              have hlt' : (k : Int) < (ln.length : Int) := by omega
              have HAN : Hid (sideB ln[k].f = true → ∀ j (hj : j < ln.length), j < k + 1 → sideB ln[j].f = true) := fun hg j hj h => by
                by_cases e : j = k
                · subst e; exact hg
                · exact HA.out j hj (by omega)
              have HNO : Hid (sideB ln[k].f = false → goodL ln = false) := goodL_no ln k hlt
              have HS1 : Hid (Since W.heap.size W (wr.alloc (.cells #[.int .i64 ln[k].f, .bool ln[k].h] 61))) := HS.out.step ((Below.refl _ wr).alloc (Nat.le_refl _) _)
              generalize ln[k] = q at *
              go_wp2_with fail
              refine (isSide_any _ _).mono ?_
              rintro e w1 ⟨rfl, rfl⟩
              cases hgd : sideB q.f with
              | true =>
                have HA1 : Hid (∀ j (hj : j < ln.length), j < k + 1 → sideB ln[j].f = true) := HAN.out hgd
                clear hgd
                go_wp2
                go_roundw
                case rel => exact ⟨k + 1, by omega, by go_num, HA1, HS1⟩
                case measure => simp [intOf]; omega
              | false =>
                have HF1 : Hid (goodL ln = false) := HNO.out hgd
                clear hgd
                go_wp2
                go_ret
                exact ⟨ret_bool (HG1.out.trans HF1.out).symm, HS1.out.1⟩
            · have HF1 : Hid (goodL ln = true) := goodL_yes ln fun j hj => HA.out j hj (by omega)
              have hlt' : ¬ (k : Int) < (ln.length : Int) := by omega
              go_wp2
              go_ret
              exact ⟨ret_bool (HG1.out.trans HF1.out).symm, HS.out.1⟩
  · have HE : Hid (false = goodPr p) := (goodPr_len p hlen).symm
    have HB : Hid (Below W.heap.size W (W.alloc (.cells #[.slice a1 p.st.length c1, .slice a2 p.lf.length c2, .slice a3 p.ln.length c3] 40))) := (Below.refl _ W).alloc (Nat.le_refl _) _
    clear h hc3
    by_cases e1 : p.st.length = 2
    · by_cases e2 : p.lf.length = 2
      · have d3 : (12 : Int) < (p.ln.length : Int) := by omega
        rw [e1, e2]
        rw [e1, e2] at HB
        clear hlen e1 e2
        go_enter Try.func23, Try.ntmps23
        go_wp2
        go_ret
        exact ⟨ret_bool HE.out, HB.out⟩
      · have d2 : ((p.lf.length : Int) != 2) = true := by simp; omega
        rw [e1]
        rw [e1] at HB
        clear hlen e1
        go_enter Try.func23, Try.ntmps23
        go_wp2
        go_ret
        exact ⟨ret_bool HE.out, HB.out⟩
    · have d1 : ((p.st.length : Int) != 2) = true := by simp; omega
      clear hlen
      go_enter Try.func23, Try.ntmps23
      go_wp2
      go_ret
      exact ⟨ret_bool HE.out, HB.out⟩
end Go.Proofs.Ytchddjidjfpehaa
