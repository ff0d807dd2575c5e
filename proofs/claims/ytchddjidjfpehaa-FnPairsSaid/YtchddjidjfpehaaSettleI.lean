/-
  'SettlePair' of the program.
-/
import Derived.Test.YtchddjidjfpehaaPlayI
namespace Go.Proofs.Ytchddjidjfpehaa
open Go.RowKit

def settleSteps : List ST := [⟨1, 0⟩, ⟨2, 0⟩, ⟨1, 1⟩, ⟨2, 0⟩, ⟨1, 0⟩, ⟨2, 0⟩]
def settleOut (p : PR) : PR := if goodPr p then playP ⟨p.st, p.lf, []⟩ settleSteps else noP

theorem quiet_good (p : PR) (h : goodPr p = true) : goodPr ⟨p.st, p.lf, []⟩ = true := by
  obtain ⟨s0, s1, l0, l1, ln, rfl, g0, g1, -, -⟩ := goodPr_form p h
  simp [goodPr, goodT, g0, g1, goodL]
theorem settle_some (st lf : List Int) : SomeB (playB ⟨st, lf, []⟩ settleSteps) := by
  unfold SomeB settleSteps
  simp only [playB, List.any_cons]
  rfl
theorem settleOut_len (p : PR) : (settleOut p).st.length ≤ 2 ∧ (settleOut p).lf.length ≤ 2 ∧ (settleOut p).ln.length ≤ 12 := by
  unfold settleOut
  split
  · next h =>
    obtain ⟨s0, s1, l0, l1, ln, e, -, -, hl, -⟩ := goodPr_form _ (play_good settleSteps _ (quiet_good p h))
    rw [e]
    exact ⟨Nat.le_refl _, Nat.le_refl _, hl⟩
  · exact ⟨Nat.zero_le _, Nat.zero_le _, Nat.zero_le _⟩

/-- Six steps, written out in a block of their own. -/
theorem six_steps (w : World) : ReadsS (w.alloc (.cells #[.int .i64 1, .int .i64 0, .int .i64 2, .int .i64 0, .int .i64 1, .int .i64 1, .int .i64 2, .int .i64 0, .int .i64 1, .int .i64 0, .int .i64 2, .int .i64 0] 53)) (.slice (some ⟨w.heap.size, 0, none⟩) 6 6) settleSteps := by
  refine ⟨_, _, rfl, .inr ⟨w.heap.size, 0, rfl, by simp, fun j hj => ?_⟩⟩
  have hc : ∀ o, (w.alloc (.cells #[.int .i64 1, .int .i64 0, .int .i64 2, .int .i64 0, .int .i64 1, .int .i64 1, .int .i64 2, .int .i64 0, .int .i64 1, .int .i64 0, .int .i64 2, .int .i64 0] 53)).cell? ⟨w.heap.size, o, none⟩ = #[Value.int .i64 1, .int .i64 0, .int .i64 2, .int .i64 0, .int .i64 1, .int .i64 1, .int .i64 2, .int .i64 0, .int .i64 1, .int .i64 0, .int .i64 2, .int .i64 0][o]? := fun o => World.cell?_alloc_at _ _ _ _ rfl
  unfold StepAt
  rw [hc, hc]
  have hj6 : j < 6 := hj
  match j, hj6 with
  | 0, _ | 1, _ | 2, _ | 3, _ | 4, _ | 5, _ => exact ⟨rfl, rfl⟩
theorem ReadsS.below {W W' : World} {v : Value} {ss : List ST} (h : ReadsS W v ss) (hb : Below W.heap.size W W') : ReadsS W' v ss := by
  obtain ⟨a, cap, hv, hc⟩ := h
  refine ⟨a, cap, hv, hc.imp id ?_⟩
  rintro ⟨g, off, ha, hg, hcell⟩
  exact ⟨g, off, ha, Nat.lt_of_lt_of_le hg hb.size, fun j hj => (hcell j hj).below hg hb⟩

set_option maxRecDepth 100000 in
set_option maxHeartbeats 2000000 in
theorem implSettle_any (W : World) (B : Nat) (x y z : Value) (p : PR) (h : Own3 W B x y z p) (hB : B ≤ W.heap.size) (h1 : p.st.length ≤ 1048576) (h2 : p.lf.length ≤ 1048576) (h3 : p.ln.length ≤ 1048576) :
    Calls Try.prog 21 #[.agg #[x, y, z]] W fun e W' => ∃ x' y' z', e = .returned (.tuple #[.agg #[x', y', z'], .bool (goodPr p)]) ∧ Own3 W' W.heap.size x' y' z' (settleOut p) ∧ Below W.heap.size W W' := by
  obtain ⟨a1, c1, rfl⟩ := h.st.shape
  obtain ⟨a2, c2, rfl⟩ := h.lf.shape
  obtain ⟨a3, c3, rfl⟩ := h.ln.shape
  have HR : Hid (∀ W1, Since W.heap.size W W1 → Own3 W1 B (.slice a1 p.st.length c1) (.slice a2 p.lf.length c2) (.slice a3 p.ln.length c3) p) := fun W1 hb => h.below hb.1
  have HS0 : Hid (Since W.heap.size W ((W.alloc (.cells #[.slice a1 p.st.length c1, .slice a2 p.lf.length c2, .slice a3 p.ln.length c3] 40)).alloc (.cells #[.slice none 0 0, .slice none 0 0, .slice none 0 0] 40))) := ((Since.start W).step ((Below.refl _ W).alloc (Nat.le_refl _) _)).step ((Below.refl _ _).alloc (Nat.le_refl _) _)
  have HP0 : Hid (Bx3 ((W.alloc (.cells #[.slice a1 p.st.length c1, .slice a2 p.lf.length c2, .slice a3 p.ln.length c3] 40)).alloc (.cells #[.slice none 0 0, .slice none 0 0, .slice none 0 0] 40)) W.heap.size (.slice a1 p.st.length c1) (.slice a2 p.lf.length c2) (.slice a3 p.ln.length c3)) := (Bx3.new _ _ _ _ _).below ((Below.refl _ _).alloc (Nat.le_refl _) _)
  have HQ0 : Hid (Bx3 ((W.alloc (.cells #[.slice a1 p.st.length c1, .slice a2 p.lf.length c2, .slice a3 p.ln.length c3] 40)).alloc (.cells #[.slice none 0 0, .slice none 0 0, .slice none 0 0] 40)) (W.heap.size + 1) (.slice none 0 0) (.slice none 0 0) (.slice none 0 0)) := by
    have := Bx3.new (W.alloc (.cells #[.slice a1 p.st.length c1, .slice a2 p.lf.length c2, .slice a3 p.ln.length c3] 40)) (.slice none 0 0) (.slice none 0 0) (.slice none 0 0) 40
    exact (show Bx3 _ _ _ _ _ by simpa using this)
  clear h
  cases hg : goodPr p with
  | false =>
    rw [show settleOut p = noP from by unfold settleOut; rw [hg]; rfl]
    have HG : Hid (goodPr p = false) := hg
    clear hg
    go_enter Try.func21, Try.ntmps21
    go_wp2_with fail
    refine (implGoodPair_any _ _ _ _ p (HR.out _ HS0.out).reads h1 h2 h3).mono ?_
    rintro e w1 ⟨rfl, hb1⟩
    rw [HG.out]
    have HS1 : Hid (Since W.heap.size W w1) := HS0.out.step hb1
    obtain ⟨q0, q1, q2, q3, qf⟩ := HQ0.out.below hb1
    clear hb1
    go_wp2
    refine bodyPost_ret (v := .tuple #[.agg #[.slice none 0 0, .slice none 0 0, .slice none 0 0], .bool false]) (by simp [results, Try.results21, go_sem, q1, q2, q3]) rfl ⟨_, _, _, rfl, Own3.nil _ _, ?_⟩
    exact ((HS1.out.1.setCell (by simp) _).setCell (by simp) _).setCell (by simp) _
  | true =>
    obtain ⟨q, hq⟩ : ∃ q, q = settleOut p := ⟨_, rfl⟩
    rw [← hq]
    have HQQ : Hid (playP ⟨p.st, p.lf, []⟩ settleSteps = q) := by show _ = _; rw [hq]; unfold settleOut; rw [hg]; rfl
    have HG : Hid (goodPr p = true) := hg
    clear hg hq
    go_enter Try.func21, Try.ntmps21
    go_wp2_with fail
    refine (implGoodPair_any _ _ _ _ p (HR.out _ HS0.out).reads h1 h2 h3).mono ?_
    rintro e w1 ⟨rfl, hb1⟩
    rw [HG.out]
    have HS1 : Hid (Since W.heap.size W w1) := HS0.out.step hb1
    have HQ1 : Hid (Bx3 w1 (W.heap.size + 1) (.slice none 0 0) (.slice none 0 0) (.slice none 0 0)) := HQ0.out.below hb1
    obtain ⟨p0, p1, p2, p3, -⟩ := HP0.out.below hb1
    clear hb1
    have HA1 : Below w1.heap.size w1 (w1.alloc (.cells #[.int .i64 1, .int .i64 0, .int .i64 2, .int .i64 0, .int .i64 1, .int .i64 1, .int .i64 2, .int .i64 0, .int .i64 1, .int .i64 0, .int .i64 2, .int .i64 0] 53)) := (Below.refl _ w1).alloc (Nat.le_refl _) _
    obtain ⟨w2, hw2⟩ : ∃ w2, w2 = (w1.alloc (.cells #[.int .i64 1, .int .i64 0, .int .i64 2, .int .i64 0, .int .i64 1, .int .i64 1, .int .i64 2, .int .i64 0, .int .i64 1, .int .i64 0, .int .i64 2, .int .i64 0] 53)).alloc (.cells #[.slice a1 p.st.length c1, .slice a2 p.lf.length c2, .slice none 0 0] 40) := ⟨_, rfl⟩
    have HA2 : Below w1.heap.size w1 w2 := by rw [hw2]; exact HA1.alloc (by simp) _
    have HRS : Hid (ReadsS w2 (.slice (some ⟨w1.heap.size, 0, none⟩) 6 6) settleSteps) := by show ReadsS _ _ _; rw [hw2]; exact (six_steps w1).below ((Below.refl _ _).alloc (Nat.le_refl _) _)
    have HOS : Hid (Own3 w2 B (.slice a1 p.st.length c1) (.slice a2 p.lf.length c2) (.slice none 0 0) ⟨p.st, p.lf, []⟩) := by
      have ho := HR.out w2 (HS1.out.step HA2)
      exact ⟨ho.st, ho.lf, OwnH.nil _ _, ho.apart⟩
    have HS2 : Hid (Since W.heap.size W w2) := HS1.out.step HA2
    have HQ2 : Hid (Bx3 w2 (W.heap.size + 1) (.slice none 0 0) (.slice none 0 0) (.slice none 0 0)) := HQ1.out.below HA2
    have HB2 : Hid (B ≤ w2.heap.size) := Nat.le_trans hB HS2.out.2
    clear HA1 HA2
    go_wp2_with fail
    rw [← hw2]
    refine (playSteps_any w2 B _ _ _ _ ⟨p.st, p.lf, []⟩ settleSteps HOS.out HB2.out (quiet_good p HG.out) HRS.out (by decide)).mono ?_
    rw [HQQ.out]
    rintro e w3 ⟨x3, y3, z3, v3, rfl, -, ho3, -, hb3⟩
    have ho3 := ho3 (settle_some p.st p.lf)
    obtain ⟨j1, e1, rfl⟩ := ho3.st.shape
    obtain ⟨j2, e2, rfl⟩ := ho3.lf.shape
    obtain ⟨j3, e3, rfl⟩ := ho3.ln.shape
    have hlt : W.heap.size + 1 < w2.heap.size := HQ2.out.lt
    have HS3 : Hid (Since W.heap.size W w3) := HS2.out.step hb3
    have HO3 : Hid (Own3 w3 (w2.heap.size + 2) (.slice j1 q.st.length e1) (.slice j2 q.lf.length e2) (.slice j3 q.ln.length e3) q) := ho3
    have HX3 := HQ2.out.below hb3
    obtain ⟨z0, z1, z2, z3, -⟩ := (((HX3.put0 (.slice j1 q.st.length e1)).put1 (.slice j2 q.lf.length e2)).put2 (.slice j3 q.ln.length e3)).below ((Below.refl _ _).alloc (Nat.le_refl _) (.cells #[.slice j1 q.st.length e1, .slice j2 q.lf.length e2, .slice j3 q.ln.length e3] 40))
    obtain ⟨x0, x1, x2, x3', xf⟩ := HX3
    clear hb3 ho3
    go_wp2
    refine bodyPost_ret (v := .tuple #[.agg #[.slice j1 q.st.length e1, .slice j2 q.lf.length e2, .slice j3 q.ln.length e3], .bool true]) (by simp [results, Try.results21, go_sem, z1, z2, z3]) rfl ⟨_, _, _, rfl, ?_, ?_⟩
    · have h5 : ∀ j, (⟨W.heap.size + 1, j, none⟩ : Addr).block < w2.heap.size + 2 := fun j => by show W.heap.size + 1 < _; omega
      exact ((((HO3.out.setCell (h5 0) _).setCell (h5 1) _).setCell (h5 2) _).below ((Below.refl _ _).alloc (Nat.le_refl _) _)).mono (by omega)
    · exact (((HS3.out.1.setCell (by simp) _).setCell (by simp) _).setCell (by simp) _).alloc (by simpa [World.setCell] using HS3.out.2) _
end Go.Proofs.Ytchddjidjfpehaa
