/-
  'GoodPair' of the model.
-/
import Derived.Test.YtchddjidjfpehaaGoodImpl
namespace Go.Proofs.Ytchddjidjfpehaa
open Go.RowKit

theorem l3Side_any (s : Int) (W : World) : Calls Try.prog 67 #[.int .i64 s] W fun e W' => e = .returned (.bool (sideB s)) ∧ W' = W := by
  go_enter Try.func67, Try.ntmps67
  go_wp2_with fail
  refine (l1In_any _ _ _ _).mono ?_
  rintro e w1 ⟨rfl, rfl⟩
  have HE : Hid ((decide (0 ≤ s) && decide (s ≤ 1)) = sideB s) := by show _ = _; unfold sideB; rw [Bool.eq_iff_iff]; simp
  go_wp2
  go_ret
  exact ⟨ret_bool HE.out, rfl⟩

theorem goodS_ne (s l : Int) (h1 : 0 ≤ s ∧ s ≤ 2) (h2 : 0 ≤ l ∧ l ≤ 3) (h : goodS s l = false) : (!((l == 0) == (s == 0))) = true := by
  have h := of_decide_eq_false h
  rw [Bool.eq_iff_iff]
  simp
  rw [Bool.eq_iff_iff]
  simp
  omega
theorem goodS_eq (s l : Int) (h : goodS s l = true) : (!((l == 0) == (s == 0))) = false := by
  have h := of_decide_eq_true h
  rw [Bool.eq_iff_iff]
  simp
  rw [Bool.eq_iff_iff]
  simp
  omega

set_option maxRecDepth 100000 in
set_option maxHeartbeats 4000000 in
theorem specGoodPair_any (W : World) (x y z : Value) (p : PR) (h : Reads3 W x y z p) (h1 : p.st.length ≤ 1048576) (h2 : p.lf.length ≤ 1048576) (h3 : p.ln.length ≤ 1048576) :
    Calls Try.prog 31 #[.agg #[x, y, z]] W fun e W' => e = .returned (.bool (goodPr p)) ∧ Below W.heap.size W W' := by
  have hst := h.st
  have hlf := h.lf
  obtain ⟨a1, c1, rfl, hc1⟩ := hst
  obtain ⟨a2, c2, rfl, hc2⟩ := hlf
  have hln := h.ln
  obtain ⟨a3, c3, rfl, hc3⟩ := hln
  by_cases hlen : p.st.length = 2 ∧ p.lf.length = 2 ∧ p.ln.length ≤ 12
  · obtain ⟨e1, e2, e3⟩ := hlen
    obtain ⟨st, lf, ln⟩ := p
    simp only at e1 e2 e3 h hc1 hc2 hc3 ⊢
    obtain ⟨s0, s1, rfl⟩ := two_of st e1
    obtain ⟨l0, l1, rfl⟩ := two_of lf e2
    obtain ⟨g1, o1, rfl, hg1, hc1⟩ := hc1.resolve_left (by simp)
    obtain ⟨g2, o2, rfl, hg2, hc2⟩ := hc2.resolve_left (by simp)
    have k0 := hc1 0 (by simp)
    have k1 := hc1 1 (by simp)
    have m0 := hc2 0 (by simp)
    have m1 := hc2 1 (by simp)
    simp only [Nat.add_zero, List.getElem_cons_zero, List.getElem_cons_succ] at k0 k1 m0 m1
    clear e1 e2 h1 h2 h3 hc1 hc2
    have HS : Hid (Since W.heap.size W (W.alloc (.cells #[.slice (some ⟨g1, o1, none⟩) 2 c1, .slice (some ⟨g2, o2, none⟩) 2 c2, .slice a3 ln.length c3] 40))) := (Since.start W).step ((Below.refl _ W).alloc (Nat.le_refl _) _)
    have HX : Hid (Bx3 (W.alloc (.cells #[.slice (some ⟨g1, o1, none⟩) 2 c1, .slice (some ⟨g2, o2, none⟩) 2 c2, .slice a3 ln.length c3] 40)) W.heap.size (.slice (some ⟨g1, o1, none⟩) 2 c1) (.slice (some ⟨g2, o2, none⟩) 2 c2) (.slice a3 ln.length c3)) := Bx3.new _ _ _ _ _
    have HE : Hid (goodPr ⟨[s0, s1], [l0, l1], ln⟩ = ((goodS s0 l0 && goodS s1 l1) && goodL ln)) := by
      show _ = _
      unfold goodPr
      simp only [goodT, decide_eq_true e3, Bool.true_and]
    have HC3 : Hid (ln = [] ∨ ∃ g off, a3 = some ⟨g, off, none⟩ ∧ g < W.heap.size ∧ ∀ j (hj : j < ln.length), HelloAt W g (off + j * 2) ln[j]) := hc3
    have d3 : ¬ (12 : Int) < (ln.length : Int) := by omega
    simp only [List.length_cons, List.length_nil, Nat.zero_add, Nat.reduceAdd] at *
    clear h hc3
    rw [HE.out]
    go_enter Try.func31, Try.ntmps31
    go_wp2
    refine wp_loop_rounds 3 ?_
    rw [rounds_succ]
    go_wp2_with fail
    refine (l1In_any s0 0 2 _).mono ?_
    rintro e wx ⟨rfl, rfl⟩
    by_cases hs0 : 0 ≤ s0 ∧ s0 ≤ 2
    · rw [decide_eq_true hs0]
      have HS0 : Hid (0 ≤ s0 ∧ s0 ≤ 2) := hs0
      clear hs0
      go_wp2_with fail
      refine (l1In_any l0 0 3 _).mono ?_
      rintro e wx ⟨rfl, rfl⟩
      by_cases hl0 : 0 ≤ l0 ∧ l0 ≤ 3
      · rw [decide_eq_true hl0]
        have HL0 : Hid (0 ≤ l0 ∧ l0 ≤ 3) := hl0
        clear hl0
        cases hg0 : goodS s0 l0 with
        | false =>
          have HF : Hid ((goodS s0 l0 && goodS s1 l1 && goodL ln) = false) := by show _ = _; rw [hg0]; simp
          have hb : (!((l0 == 0) == (s0 == 0))) = true := goodS_ne s0 l0 HS0.out HL0.out hg0
          clear hg0
          go_wp2
          all_goals
            go_ret
            exact ⟨ret_bool (by rw [← HF.out]), HS.out.1⟩
        | true =>
          have HG0 : Hid (goodS s0 l0 = true) := hg0
          have hb : (!((l0 == 0) == (s0 == 0))) = false := goodS_eq s0 l0 hg0
          clear hg0
          go_wp2
          rw [rounds_succ]
          go_wp2_with fail
          refine (l1In_any s1 0 2 _).mono ?_
          rintro e wx ⟨rfl, rfl⟩
          by_cases hs1 : 0 ≤ s1 ∧ s1 ≤ 2
          · rw [decide_eq_true hs1]
            have HS1 : Hid (0 ≤ s1 ∧ s1 ≤ 2) := hs1
            clear hs1
            go_wp2_with fail
            refine (l1In_any l1 0 3 _).mono ?_
            rintro e wx ⟨rfl, rfl⟩
            by_cases hl1 : 0 ≤ l1 ∧ l1 ≤ 3
            · rw [decide_eq_true hl1]
              have HL1 : Hid (0 ≤ l1 ∧ l1 ≤ 3) := hl1
              clear hl1
              cases hg1 : goodS s1 l1 with
              | false =>
                have HF : Hid ((goodS s0 l0 && goodS s1 l1 && goodL ln) = false) := by show _ = _; rw [hg1]; simp
                have hb : (!((l1 == 0) == (s1 == 0))) = true := goodS_ne s1 l1 HS1.out HL1.out hg1
                clear hg1
                go_wp2
                all_goals
                  go_ret
                  exact ⟨ret_bool (by rw [← HF.out]), HS.out.1⟩
              | true =>
                have HG1 : Hid (goodS s1 l1 = true) := hg1
                have hb : (!((l1 == 0) == (s1 == 0))) = false := goodS_eq s1 l1 hg1
                clear hg1
                go_wp2
                have HGL : Hid ((goodS s0 l0 && goodS s1 l1 && goodL ln) = goodL ln) := by show _ = _; rw [HG0.out, HG1.out]; simp
                rw [rounds_succ]
                go_wp2
                rcases HC3.out with hnil | ⟨g, off, ha, hg, hcell⟩
                · subst hnil
                  simp only [List.length_nil]
                  refine wp_loop_rounds 1 ?_
                  rw [rounds_succ]
                  go_wp2
                  go_ret
                  exact ⟨ret_bool (by rw [HGL.out]; rfl), HS.out.1⟩
                · subst ha
                  have HC : Hid (∀ W1, Since W.heap.size W W1 → ∀ j (hj : j < ln.length), HelloAt W1 g (off + j * 2) ln[j]) := fun W1 hS j hj => (hcell j hj).below hg hS.1
                  clear hcell HC3 HE hb
                  go_loopw [58] (fun i wr => ∃ k : Nat, k ≤ ln.length ∧ i = .int .i64 k ∧ Hid (∀ j (hj : j < ln.length), j < k → sideB ln[j].f = true) ∧ Hid (Since W.heap.size W wr)) (fun i _ => ln.length - (intOf i).toNat)
                  case atStart => exact ⟨0, Nat.zero_le _, rfl, fun j hj h => absurd h (Nat.not_lt_zero _), HS⟩
                  case round =>
                    obtain ⟨k, hk, rfl, HA, HSr⟩ := hrel
                    by_cases hlt : k < ln.length
                    · obtain ⟨q0, q1⟩ := HC.out wr HSr.out k hlt
                      have hlt' : (k : Int) < (ln.length : Int) := by omega
                      have HAN : Hid (sideB ln[k].f = true → ∀ j (hj : j < ln.length), j < k + 1 → sideB ln[j].f = true) := fun hg j hj h => by
                        by_cases e : j = k
                        · subst e; exact hg
                        · exact HA.out j hj (by omega)
                      have HNO : Hid (sideB ln[k].f = false → goodL ln = false) := goodL_no ln k hlt
                      have HS1 : Hid (Since W.heap.size W (wr.alloc (.cells #[.int .i64 ln[k].f, .bool ln[k].h] 61))) := HSr.out.step ((Below.refl _ wr).alloc (Nat.le_refl _) _)
                      generalize ln[k] = q at *
                      go_wp2_with fail
                      refine (l3Side_any _ _).mono ?_
                      rintro e w1 ⟨rfl, rfl⟩
                      cases hgd : sideB q.f with
                      | true =>
                        have HA1 : Hid (∀ j (hj : j < ln.length), j < k + 1 → sideB ln[j].f = true) := HAN.out hgd
                        clear hgd
                        go_wp2
                        go_roundw
                        case rel => exact ⟨k + 1, by omega, by go_num, HA1, HS1⟩
                        case measure => simp [intOf]; omega
                      | false =>
                        have HF1 : Hid (goodL ln = false) := HNO.out hgd
                        clear hgd
                        go_wp2
                        go_ret
                        exact ⟨ret_bool (HGL.out.trans HF1.out).symm, HS1.out.1⟩
                    · have HF1 : Hid (goodL ln = true) := goodL_yes ln fun j hj => HA.out j hj (by omega)
                      have hlt' : ¬ (k : Int) < (ln.length : Int) := by omega
                      go_wp2
                      go_ret
                      exact ⟨ret_bool (HGL.out.trans HF1.out).symm, HSr.out.1⟩
            · rw [decide_eq_false hl1]
              have HF : Hid ((goodS s0 l0 && goodS s1 l1 && goodL ln) = false) := by
                have : goodS s1 l1 = false := by unfold goodS; apply decide_eq_false; omega
                show _ = _; rw [this]; simp
              clear hl1
              go_wp2
              go_ret
              exact ⟨ret_bool (by rw [← HF.out]), HS.out.1⟩
          · rw [decide_eq_false hs1]
            have HF : Hid ((goodS s0 l0 && goodS s1 l1 && goodL ln) = false) := by
              have : goodS s1 l1 = false := by unfold goodS; apply decide_eq_false; omega
              show _ = _; rw [this]; simp
            clear hs1
            go_wp2
            go_ret
            exact ⟨ret_bool (by rw [← HF.out]), HS.out.1⟩
      · rw [decide_eq_false hl0]
        have HF : Hid ((goodS s0 l0 && goodS s1 l1 && goodL ln) = false) := by
          have : goodS s0 l0 = false := by unfold goodS; apply decide_eq_false; omega
          show _ = _; rw [this]; simp
        clear hl0
        go_wp2
        go_ret
        exact ⟨ret_bool (by rw [← HF.out]), HS.out.1⟩
    · rw [decide_eq_false hs0]
      have HF : Hid ((goodS s0 l0 && goodS s1 l1 && goodL ln) = false) := by
        have : goodS s0 l0 = false := by unfold goodS; apply decide_eq_false; omega
        show _ = _; rw [this]; simp
      clear hs0
      go_wp2
      go_ret
      exact ⟨ret_bool (by rw [← HF.out]), HS.out.1⟩
  · have HE : Hid (false = goodPr p) := (goodPr_len p hlen).symm
    have HB : Hid (Below W.heap.size W (W.alloc (.cells #[.slice a1 p.st.length c1, .slice a2 p.lf.length c2, .slice a3 p.ln.length c3] 40))) := (Below.refl _ W).alloc (Nat.le_refl _) _
    clear h hc1 hc2 hc3
    by_cases e1 : p.st.length = 2
    · by_cases e2 : p.lf.length = 2
      · have d3 : (12 : Int) < (p.ln.length : Int) := by omega
        rw [e1, e2]
        rw [e1, e2] at HB
        clear hlen e1 e2
        go_enter Try.func31, Try.ntmps31
        go_wp2
        go_ret
        exact ⟨ret_bool HE.out, HB.out⟩
      · have d2 : ((p.lf.length : Int) != 2) = true := by simp; omega
        rw [e1]
        rw [e1] at HB
        clear hlen e1
        go_enter Try.func31, Try.ntmps31
        go_wp2
        go_ret
        exact ⟨ret_bool HE.out, HB.out⟩
    · have d1 : ((p.st.length : Int) != 2) = true := by simp; omega
      clear hlen
      go_enter Try.func31, Try.ntmps31
      go_wp2
      go_ret
      exact ⟨ret_bool HE.out, HB.out⟩
end Go.Proofs.Ytchddjidjfpehaa
