/-
  'afterStep' and 'StepPair' of the program.
-/
import Derived.Test.YtchddjidjfpehaaJa
import Derived.Test.YtchddjidjfpehaaCanS
import Derived.Test.YtchddjidjfpehaaGoodImpl
namespace Go.Proofs.Ytchddjidjfpehaa
open Go.RowKit

theorem goodS_state (s l : Int) (h : goodS s l = true) : stateB s = true := by
  have := goodS_cases s l h
  unfold stateB
  apply decide_eq_true
  omega

theorem afterStep_any (W : World) (B : Nat) (x y z : Value) (p : PR) (kind k : Int) (h : Own3 W B x y z p) (hg : goodPr p = true) (hc : canB p.ln kind k = true) :
    Calls Try.prog 62 #[.agg #[x, y, z], .agg #[.int .i64 kind, .int .i64 k]] W fun e W' => ∃ x' y' z', e = .returned (.agg #[x', y', z']) ∧ Own3 W' W.heap.size x' y' z' (stepP p kind k) ∧ Below W.heap.size W W' := by
  obtain ⟨s0, s1, l0, l1, ln, rfl, g0, g1, hl, hL⟩ := goodPr_form p hg
  have hc : canB ln kind k = true := hc
  by_cases e1 : kind = 1
  · subst e1
    have hc' : (0 ≤ k ∧ k ≤ 1) ∧ ln.length < 12 := by
      unfold canB at hc
      rw [if_pos rfl] at hc
      exact of_decide_eq_true hc
    obtain ⟨hk, hlt⟩ := hc'
    have hk : k = 0 ∨ k = 1 := by omega
    rcases hk with rfl | rfl
    · rcases goodS_cases s0 l0 g0 with ⟨rfl, rfl⟩ | hn
      · exact after_say_0_false W B x y z s1 l1 ln h hl hlt
      · have hne : ¬ s0 = 0 := by omega
        have e : stepP ⟨[s0, s1], [l0, l1], ln⟩ 1 0 = ⟨[s0, s1], [l0, l1], ln ++ [HD.mk 0 true]⟩ := by
          simp [stepP, hne]
        rw [e]
        exact after_say_0_true W B x y z s0 s1 l0 l1 ln h hl hlt hne
    · rcases goodS_cases s1 l1 g1 with ⟨rfl, rfl⟩ | hn
      · exact after_say_1_false W B x y z s0 l0 ln h hl hlt
      · have hne : ¬ s1 = 0 := by omega
        have e : stepP ⟨[s0, s1], [l0, l1], ln⟩ 1 1 = ⟨[s0, s1], [l0, l1], ln ++ [HD.mk 1 true]⟩ := by
          simp [stepP, hne]
        rw [e]
        exact after_say_1_true W B x y z s0 s1 l0 l1 ln h hl hlt hne
  · by_cases e23 : kind = 2 ∨ kind = 3
    · have hk : 0 ≤ k ∧ k < (ln.length : Int) := by
        unfold canB at hc
        rw [if_neg e1, if_pos e23] at hc
        exact of_decide_eq_true hc
      obtain ⟨n, rfl⟩ : ∃ n : Nat, k = (n : Int) := ⟨k.toNat, by omega⟩
      have hn : n < ln.length := by omega
      rcases e23 with rfl | rfl
      · have e : stepP ⟨[s0, s1], [l0, l1], ln⟩ 2 (n : Int) = ⟨[s0, s1].set (1 - ln[n].f).toNat (heardS ln[n].h), [l0, l1].set (1 - ln[n].f).toNat 3, ln.eraseIdx n⟩ := by
          simp [stepP, List.getElem?_eq_getElem hn]
        rw [e]
        exact after_take W B x y z s0 s1 l0 l1 ln n ln[n] h hl hn rfl (goodL_at ln hL n hn) (goodS_state _ _ g0) (goodS_state _ _ g1)
      · have e : stepP ⟨[s0, s1], [l0, l1], ln⟩ 3 (n : Int) = ⟨[s0, s1], [l0, l1], ln.eraseIdx n⟩ := by
          simp [stepP]
        rw [e]
        exact after_lose W B x y z s0 s1 l0 l1 ln n h hl hn
    · have hk : kind = 4 ∧ k = 0 := by
        unfold canB at hc
        rw [if_neg e1, if_neg e23] at hc
        exact of_decide_eq_true hc
      obtain ⟨rfl, rfl⟩ := hk
      exact after_tick W B x y z s0 s1 l0 l1 ln h hl g0 g1

theorem stepOut_no (p : PR) (kind k : Int) (h : stepOk p kind k = false) : stepOut p kind k = noP := by unfold stepOut; rw [h]; rfl
theorem stepOut_yes (p : PR) (kind k : Int) (h : stepOk p kind k = true) : stepOut p kind k = stepP p kind k := by unfold stepOut; rw [h]; rfl

set_option maxRecDepth 100000 in
set_option maxHeartbeats 2000000 in
theorem implStep_any (W : World) (B : Nat) (x y z : Value) (p : PR) (kind k : Int) (h : Own3 W B x y z p) (h1 : p.st.length ≤ 1048576) (h2 : p.lf.length ≤ 1048576) (h3 : p.ln.length ≤ 1048576) :
    Calls Try.prog 24 #[.agg #[x, y, z], .agg #[.int .i64 kind, .int .i64 k]] W fun e W' => ∃ x' y' z', e = .returned (.tuple #[.agg #[x', y', z'], .bool (stepOk p kind k)]) ∧ Own3 W' W.heap.size x' y' z' (stepOut p kind k) ∧ Below W.heap.size W W' := by
  obtain ⟨a1, c1, rfl⟩ := h.st.shape
  obtain ⟨a2, c2, rfl⟩ := h.lf.shape
  obtain ⟨a3, c3, rfl⟩ := h.ln.shape
  have HR : Hid (∀ W1, Since W.heap.size W W1 → Own3 W1 B (.slice a1 p.st.length c1) (.slice a2 p.lf.length c2) (.slice a3 p.ln.length c3) p) := fun W1 hb => h.below hb.1
  have HS0 : Hid (Since W.heap.size W (((W.alloc (.cells #[.slice a1 p.st.length c1, .slice a2 p.lf.length c2, .slice a3 p.ln.length c3] 40)).alloc (.cells #[.int .i64 kind, .int .i64 k] 53)).alloc (.cells #[.slice none 0 0, .slice none 0 0, .slice none 0 0] 40))) := (((Since.start W).step ((Below.refl _ W).alloc (Nat.le_refl _) _)).step ((Below.refl _ _).alloc (Nat.le_refl _) _)).step ((Below.refl _ _).alloc (Nat.le_refl _) _)
  have HP0 : Hid (Bx3 (((W.alloc (.cells #[.slice a1 p.st.length c1, .slice a2 p.lf.length c2, .slice a3 p.ln.length c3] 40)).alloc (.cells #[.int .i64 kind, .int .i64 k] 53)).alloc (.cells #[.slice none 0 0, .slice none 0 0, .slice none 0 0] 40)) W.heap.size (.slice a1 p.st.length c1) (.slice a2 p.lf.length c2) (.slice a3 p.ln.length c3)) := ((Bx3.new _ _ _ _ _).below ((Below.refl _ _).alloc (Nat.le_refl _) _)).below ((Below.refl _ _).alloc (Nat.le_refl _) _)
  have HT0 : Hid (Bx2 (((W.alloc (.cells #[.slice a1 p.st.length c1, .slice a2 p.lf.length c2, .slice a3 p.ln.length c3] 40)).alloc (.cells #[.int .i64 kind, .int .i64 k] 53)).alloc (.cells #[.slice none 0 0, .slice none 0 0, .slice none 0 0] 40)) (W.heap.size + 1) (.int .i64 kind) (.int .i64 k)) := by
    have := (Bx2.new (W.alloc (.cells #[.slice a1 p.st.length c1, .slice a2 p.lf.length c2, .slice a3 p.ln.length c3] 40)) (.int .i64 kind) (.int .i64 k) 53).below ((Below.refl _ _).alloc (Nat.le_refl _) (.cells #[.slice none 0 0, .slice none 0 0, .slice none 0 0] 40))
    exact (show Bx2 _ _ _ _ by simpa using this)
  have HQ0 : Hid (Bx3 (((W.alloc (.cells #[.slice a1 p.st.length c1, .slice a2 p.lf.length c2, .slice a3 p.ln.length c3] 40)).alloc (.cells #[.int .i64 kind, .int .i64 k] 53)).alloc (.cells #[.slice none 0 0, .slice none 0 0, .slice none 0 0] 40)) (W.heap.size + 1 + 1) (.slice none 0 0) (.slice none 0 0) (.slice none 0 0)) := by
    have := Bx3.new ((W.alloc (.cells #[.slice a1 p.st.length c1, .slice a2 p.lf.length c2, .slice a3 p.ln.length c3] 40)).alloc (.cells #[.int .i64 kind, .int .i64 k] 53)) (.slice none 0 0) (.slice none 0 0) (.slice none 0 0) 40
    exact (show Bx3 _ _ _ _ _ by simpa using this)
  clear h
  cases hg : goodPr p with
  | false =>
    have hok : stepOk p kind k = false := by unfold stepOk; rw [hg]; rfl
    rw [hok, stepOut_no p kind k hok]
    have HG : Hid (goodPr p = false) := hg
    clear hg hok
    go_enter Try.func24, Try.ntmps24
    go_wp2_with fail
    refine (implGoodPair_any _ _ _ _ p (HR.out _ HS0.out).reads h1 h2 h3).mono ?_
    rintro e w1 ⟨rfl, hb1⟩
    rw [HG.out]
    have HS1 : Hid (Since W.heap.size W w1) := HS0.out.step hb1
    obtain ⟨q0, q1, q2, q3, qf⟩ := HQ0.out.below hb1
    clear hb1
    go_wp2
    refine bodyPost_ret (v := .tuple #[.agg #[.slice none 0 0, .slice none 0 0, .slice none 0 0], .bool false]) (by simp [results, Try.results24, go_sem, q1, q2, q3]) rfl ⟨_, _, _, rfl, Own3.nil _ _, ?_⟩
    exact ((HS1.out.1.setCell (by simp; omega) _).setCell (by simp; omega) _).setCell (by simp; omega) _
  | true =>
    have HG : Hid (goodPr p = true) := hg
    cases hc : canB p.ln kind k with
    | false =>
      have hok : stepOk p kind k = false := by unfold stepOk; rw [hc]; simp
      rw [hok, stepOut_no p kind k hok]
      have HC : Hid (canB p.ln kind k = false) := hc
      clear hg hok hc
      go_enter Try.func24, Try.ntmps24
      go_wp2_with fail
      refine (implGoodPair_any _ _ _ _ p (HR.out _ HS0.out).reads h1 h2 h3).mono ?_
      rintro e w1 ⟨rfl, hb1⟩
      rw [HG.out]
      have HS1 : Hid (Since W.heap.size W w1) := HS0.out.step hb1
      have HQ1 : Hid (Bx3 w1 (W.heap.size + 1 + 1) (.slice none 0 0) (.slice none 0 0) (.slice none 0 0)) := HQ0.out.below hb1
      obtain ⟨p0, p1, p2, p3, -⟩ := HP0.out.below hb1
      obtain ⟨t0, t1, t2, -⟩ := HT0.out.below hb1
      clear hb1
      go_wp2_with fail
      refine (canStep_any _ _ _ _ p kind k (HR.out _ HS1.out).reads h3).mono ?_
      rintro e w2 ⟨rfl, hb2⟩
      rw [HC.out]
      have HS2 : Hid (Since W.heap.size W w2) := HS1.out.step hb2
      obtain ⟨q0, q1, q2, q3, qf⟩ := HQ1.out.below hb2
      clear hb2 p0 p1 p2 p3 t0 t1 t2
      go_wp2
      refine bodyPost_ret (v := .tuple #[.agg #[.slice none 0 0, .slice none 0 0, .slice none 0 0], .bool false]) (by simp [results, Try.results24, go_sem, q1, q2, q3]) rfl ⟨_, _, _, rfl, Own3.nil _ _, ?_⟩
      exact ((HS2.out.1.setCell (by simp; omega) _).setCell (by simp; omega) _).setCell (by simp; omega) _
    | true =>
      have hok : stepOk p kind k = true := by unfold stepOk; rw [hg, hc]; rfl
      rw [hok, stepOut_yes p kind k hok]
      have HC : Hid (canB p.ln kind k = true) := hc
      obtain ⟨q, hq⟩ : ∃ q, q = stepP p kind k := ⟨_, rfl⟩
      rw [← hq]
      have HQQ : Hid (stepP p kind k = q) := hq.symm
      clear hq
      clear hg hok hc
      go_enter Try.func24, Try.ntmps24
      go_wp2_with fail
      refine (implGoodPair_any _ _ _ _ p (HR.out _ HS0.out).reads h1 h2 h3).mono ?_
      rintro e w1 ⟨rfl, hb1⟩
      rw [HG.out]
      have HS1 : Hid (Since W.heap.size W w1) := HS0.out.step hb1
      have HQ1 : Hid (Bx3 w1 (W.heap.size + 1 + 1) (.slice none 0 0) (.slice none 0 0) (.slice none 0 0)) := HQ0.out.below hb1
      have HP1 : Hid (Bx3 w1 W.heap.size (.slice a1 p.st.length c1) (.slice a2 p.lf.length c2) (.slice a3 p.ln.length c3)) := HP0.out.below hb1
      have HT1 : Hid (Bx2 w1 (W.heap.size + 1) (.int .i64 kind) (.int .i64 k)) := HT0.out.below hb1
      obtain ⟨p0, p1, p2, p3, -⟩ := HP1.out
      obtain ⟨t0, t1, t2, -⟩ := HT1.out
      clear hb1
      go_wp2_with fail
      refine (canStep_any _ _ _ _ p kind k (HR.out _ HS1.out).reads h3).mono ?_
      rintro e w2 ⟨rfl, hb2⟩
      rw [HC.out]
      have HS2 : Hid (Since W.heap.size W w2) := HS1.out.step hb2
      have HQ2 : Hid (Bx3 w2 (W.heap.size + 1 + 1) (.slice none 0 0) (.slice none 0 0) (.slice none 0 0)) := HQ1.out.below hb2
      clear p0 p1 p2 p3 t0 t1 t2
      obtain ⟨p0, p1, p2, p3, -⟩ := HP1.out.below hb2
      obtain ⟨t0, t1, t2, -⟩ := HT1.out.below hb2
      clear hb2
      go_wp2_with fail
      refine (afterStep_any _ B _ _ _ p kind k (HR.out _ HS2.out) HG.out HC.out).mono ?_
      rw [HQQ.out]
      rintro e w3 ⟨x', y', z', rfl, ho3, hb3⟩
      obtain ⟨b1, d1, rfl⟩ := ho3.st.shape
      obtain ⟨b2, d2, rfl⟩ := ho3.lf.shape
      obtain ⟨b3, d3, rfl⟩ := ho3.ln.shape
      have HS3 : Hid (Since W.heap.size W w3) := HS2.out.step hb3
      have hlt : W.heap.size + 1 + 1 < w2.heap.size := HQ2.out.lt
      have HO3 : Hid (Own3 w3 w2.heap.size (.slice b1 q.st.length d1) (.slice b2 q.lf.length d2) (.slice b3 q.ln.length d3) q) := ho3
      obtain ⟨q0, q1, q2, q3, qf⟩ := HQ2.out.below hb3
      clear hb3 ho3 p0 p1 p2 p3 t0 t1 t2
      go_wp2
      refine bodyPost_ret (v := .tuple #[.agg #[.slice b1 q.st.length d1, .slice b2 q.lf.length d2, .slice b3 q.ln.length d3], .bool true]) (by simp [results, Try.results24, go_sem, q1, q2, q3]) rfl ⟨_, _, _, rfl, ?_, ?_⟩
      · exact (((HO3.out.setCell (a := ⟨W.heap.size + 1 + 1, 0, none⟩) hlt _).setCell (a := ⟨W.heap.size + 1 + 1, 1, none⟩) hlt _).setCell (a := ⟨W.heap.size + 1 + 1, 2, none⟩) hlt _).mono (by have := HS2.out.2; omega)
      · exact ((HS3.out.1.setCell (by simp; omega) _).setCell (by simp; omega) _).setCell (by simp; omega) _
end Go.Proofs.Ytchddjidjfpehaa
