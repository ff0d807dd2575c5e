/-
  'toPair', 'toPairStep', 'eqPair', 'markPair', 'heldPair'.
-/
import Derived.Test.YtchddjidjfpehatPairLaw
namespace Go.Proofs.Ytchddjidjfpehat
open Go.RowKit

/-- Three cells of the newest block but one, stored anew. -/
theorem toStep_any (W : World) (k j : Int) : Calls Try.prog 19 #[.agg #[.int .i64 k, .int .i64 j]] W fun e W' => e = .returned (.agg #[.int .i64 k, .int .i64 j]) ∧ Below W.heap.size W W' := by
  go_enter Try.func19, Try.ntmps19
  go_wp2
  refine bodyPost_ret (v := .agg #[.int .i64 k, .int .i64 j]) (by simp [results, Try.results19, go_sem]) rfl ⟨rfl, ?_⟩
  exact (((Below.refl _ W).alloc (Nat.le_refl _) _).alloc (by simp) _).alloc (by simp; omega) _

set_option maxRecDepth 100000 in
set_option maxHeartbeats 2000000 in
theorem toPair_any (W : World) (x y z : Value) (p : PR) (h : Reads3 W x y z p) (h1 : p.st.length ≤ 1048576) (h2 : p.lf.length ≤ 1048576) (h3 : p.ln.length ≤ 1048576) :
    Calls Try.prog 16 #[.agg #[x, y, z]] W fun e W' => ∃ x' y' z', e = .returned (.agg #[x', y', z']) ∧ Own3 W' W.heap.size x' y' z' p ∧ Below W.heap.size W W' := by
  obtain ⟨a1, c1, rfl⟩ := h.st.shape
  obtain ⟨a2, c2, rfl⟩ := h.lf.shape
  obtain ⟨a3, c3, rfl⟩ := h.ln.shape
  obtain ⟨st, lf, ln⟩ := p
  have HR : Hid (∀ W1, Below W.heap.size W W1 → Reads3 W1 (.slice a1 st.length c1) (.slice a2 lf.length c2) (.slice a3 ln.length c3) ⟨st, lf, ln⟩) := fun W1 hb => h.below hb
  have H1 : Hid (st.length ≤ 4194304) := by show _ ≤ _; simp only at h1; omega
  have H2 : Hid (lf.length ≤ 4194304) := by show _ ≤ _; simp only at h2; omega
  have H3 : Hid (ln.length ≤ 4194304) := by show _ ≤ _; simp only at h3; omega
  have HB0 : Hid (Below W.heap.size W (((W.alloc (.cells #[.slice a1 st.length c1, .slice a2 lf.length c2, .slice a3 ln.length c3] 33)).alloc (.cells #[.slice none 0 0, .slice none 0 0, .slice none 0 0] 25)).alloc (.cells #[.slice none 0 0, .slice none 0 0, .slice none 0 0] 25))) :=
    (((Below.refl _ W).alloc (Nat.le_refl _) _).alloc (by simp) _).alloc (by simp; omega) _
  clear h h1 h2 h3
  simp only
  go_enter Try.func16, Try.ntmps16
  go_wp2_with fail
  refine (toInts_any _ _ st (HR.out _ HB0.out).st H1.out).mono ?_
  rintro e w1 ⟨v1, rfl, ho1, hb1⟩
  obtain ⟨b1, d1, rfl⟩ := ho1.shape
  have hs1 : W.heap.size + 3 ≤ w1.heap.size := by have := hb1.size; simp at this; omega
  have HO1 : Hid (Own w1 (W.heap.size + 3) (.slice b1 st.length d1) st) := by show Own _ _ _ _; simpa using ho1
  have HB1 : Hid (Below W.heap.size W w1) := HB0.out.trans (hb1.mono (by simp; omega))
  have HP1 : Hid (Bx3 w1 (W.heap.size + 1 + 1) (.slice none 0 0) (.slice none 0 0) (.slice none 0 0)) := by
    have := (Bx3.new ((W.alloc (.cells #[.slice a1 st.length c1, .slice a2 lf.length c2, .slice a3 ln.length c3] 33)).alloc (.cells #[.slice none 0 0, .slice none 0 0, .slice none 0 0] 25)) (.slice none 0 0) (.slice none 0 0) (.slice none 0 0) 25).below hb1
    exact (show Bx3 _ _ _ _ _ by simpa using this)
  have HQ1 : Hid (Bx3 w1 (W.heap.size + 1) (.slice none 0 0) (.slice none 0 0) (.slice none 0 0)) := by
    have := ((Bx3.new (W.alloc (.cells #[.slice a1 st.length c1, .slice a2 lf.length c2, .slice a3 ln.length c3] 33)) (.slice none 0 0) (.slice none 0 0) (.slice none 0 0) 25).below ((Below.refl _ _).alloc (Nat.le_refl _) (.cells #[.slice none 0 0, .slice none 0 0, .slice none 0 0] 25))).below hb1
    exact (show Bx3 _ _ _ _ _ by simpa using this)
  have HX1 : Hid (Bx3 w1 W.heap.size (.slice a1 st.length c1) (.slice a2 lf.length c2) (.slice a3 ln.length c3)) :=
    (((Bx3.new W (.slice a1 st.length c1) (.slice a2 lf.length c2) (.slice a3 ln.length c3) 33).below ((Below.refl _ _).alloc (Nat.le_refl _) (.cells #[.slice none 0 0, .slice none 0 0, .slice none 0 0] 25))).below ((Below.refl _ _).alloc (Nat.le_refl _) (.cells #[.slice none 0 0, .slice none 0 0, .slice none 0 0] 25))).below hb1
  clear ho1 hb1 HB0
  have x0 := HX1.out.c0
  have x1 := HX1.out.c1
  have x2 := HX1.out.c2
  have xf := HX1.out.fz
  have p0 := HP1.out.c0
  have p1 := HP1.out.c1
  have p2 := HP1.out.c2
  have pf := HP1.out.fz
  generalize hHW : W.heap.size = H at *
  have HH : Hid (W.heap.size = H) := hHW
  clear hHW
  have HO2 : Hid (Own (w1.setCell ⟨H + 1 + 1, 0, none⟩ (.slice b1 st.length d1)) (H + 3) (.slice b1 st.length d1) st) := HO1.out.setCell (by simp) _
  have HB2 : Hid (Below H W (w1.setCell ⟨H + 1 + 1, 0, none⟩ (.slice b1 st.length d1))) := HB1.out.setCell (by simp; omega) _
  have HP2 : Hid (Bx3 (w1.setCell ⟨H + 1 + 1, 0, none⟩ (.slice b1 st.length d1)) (H + 1 + 1) (.slice b1 st.length d1) (.slice none 0 0) (.slice none 0 0)) := HP1.out.put0 _
  have HQ2 : Hid (Bx3 (w1.setCell ⟨H + 1 + 1, 0, none⟩ (.slice b1 st.length d1)) (H + 1) (.slice none 0 0) (.slice none 0 0) (.slice none 0 0)) := HQ1.out.other (by simp) _
  have HX2 : Hid (Bx3 (w1.setCell ⟨H + 1 + 1, 0, none⟩ (.slice b1 st.length d1)) H (.slice a1 st.length c1) (.slice a2 lf.length c2) (.slice a3 ln.length c3)) := HX1.out.other (by simp; omega) _
  have hs2 : H + 3 ≤ (w1.setCell ⟨H + 1 + 1, 0, none⟩ (.slice b1 st.length d1)).heap.size := by simpa [World.setCell] using hs1
  clear HO1 HB1 HP1 HQ1 HX1
  go_wp2_with fail
  generalize w1.setCell ⟨H + 1 + 1, 0, none⟩ (.slice b1 st.length d1) = w2 at *
  refine (toInts_any _ _ lf (HR.out _ HB2.out).lf H2.out).mono ?_
  clear x0 x1 x2 xf p0 p1 p2 pf
  rintro e w3 ⟨v3, rfl, ho3, hb3⟩
  obtain ⟨b3, d3, rfl⟩ := ho3.shape
  have HA3 : Hid (∀ k, (Value.slice b1 st.length d1).ownBlock = some k → (Value.slice b3 lf.length d3).ownBlock ≠ some k) := fun k hk hk2 => by
    have l1 := (World.ownsRow.lt HO2.out k hk).2
    have l2 := (World.ownsRow.lt ho3 k hk2).1
    omega
  have HO3 : Hid (Own w3 (H + 3) (.slice b1 st.length d1) st) := HO2.out.below hb3
  have HL3 : Hid (Own w3 (H + 3) (.slice b3 lf.length d3) lf) := ho3.mono hs2
  have HB3 : Hid (Below H W w3) := HB2.out.trans (hb3.mono (by omega))
  have HP3 : Hid (Bx3 w3 (H + 1 + 1) (.slice b1 st.length d1) (.slice none 0 0) (.slice none 0 0)) := HP2.out.below hb3
  have HQ3 : Hid (Bx3 w3 (H + 1) (.slice none 0 0) (.slice none 0 0) (.slice none 0 0)) := HQ2.out.below hb3
  have HX3 : Hid (Bx3 w3 H (.slice a1 st.length c1) (.slice a2 lf.length c2) (.slice a3 ln.length c3)) := HX2.out.below hb3
  have hs3 : H + 3 ≤ w3.heap.size := Nat.le_trans hs2 hb3.size
  clear ho3 hb3 HO2 HB2 HP2 HQ2 HX2 hs2 hs1
  have x0 := HX3.out.c0
  have x1 := HX3.out.c1
  have x2 := HX3.out.c2
  have xf := HX3.out.fz
  have p0 := HP3.out.c0
  have p1 := HP3.out.c1
  have p2 := HP3.out.c2
  have pf := HP3.out.fz
  have HO4 : Hid (Own (w3.setCell ⟨H + 1 + 1, 1, none⟩ (.slice b3 lf.length d3)) (H + 3) (.slice b1 st.length d1) st) := HO3.out.setCell (by simp) _
  have HL4 : Hid (Own (w3.setCell ⟨H + 1 + 1, 1, none⟩ (.slice b3 lf.length d3)) (H + 3) (.slice b3 lf.length d3) lf) := HL3.out.setCell (by simp) _
  have HB4 : Hid (Below H W (w3.setCell ⟨H + 1 + 1, 1, none⟩ (.slice b3 lf.length d3))) := HB3.out.setCell (by simp; omega) _
  have HP4 : Hid (Bx3 (w3.setCell ⟨H + 1 + 1, 1, none⟩ (.slice b3 lf.length d3)) (H + 1 + 1) (.slice b1 st.length d1) (.slice b3 lf.length d3) (.slice none 0 0)) := HP3.out.put1 _
  have HQ4 : Hid (Bx3 (w3.setCell ⟨H + 1 + 1, 1, none⟩ (.slice b3 lf.length d3)) (H + 1) (.slice none 0 0) (.slice none 0 0) (.slice none 0 0)) := HQ3.out.other (by simp) _
  have hs4 : H + 3 ≤ (w3.setCell ⟨H + 1 + 1, 1, none⟩ (.slice b3 lf.length d3)).heap.size := by simpa [World.setCell] using hs3
  clear HO3 HL3 HB3 HP3 HQ3 HX3
  go_wp2_with fail
  generalize w3.setCell ⟨H + 1 + 1, 1, none⟩ (.slice b3 lf.length d3) = w4 at *
  refine (toHellos_any _ _ ln (HR.out _ HB4.out).ln H3.out).mono ?_
  clear x0 x1 x2 xf p0 p1 p2 pf
  rintro e w5 ⟨v5, rfl, ho5, hb5⟩
  obtain ⟨b5, d5, rfl⟩ := ho5.shape
  have HF5 : Hid (Own3 w5 (H + 3) (.slice b1 st.length d1) (.slice b3 lf.length d3) (.slice b5 ln.length d5) ⟨st, lf, ln⟩) := ⟨HO4.out.below hb5, HL4.out.below hb5, ho5.mono hs4, HA3.out⟩
  have HB5 : Hid (Below H W w5) := HB4.out.trans (hb5.mono (by omega))
  have pB := HP4.out.below hb5
  have pl := pB.lt
  have p0 := pB.c0
  have p1 := pB.c1
  have p2 := pB.c2
  have pf := pB.fz
  clear pB
  have qB := HQ4.out.below hb5
  have ql := qB.lt
  have q0 := qB.c0
  have q1 := qB.c1
  have q2 := qB.c2
  have qf := qB.fz
  clear qB
  clear ho5 hb5 HO4 HL4 HB4 HP4 HQ4 hs4 hs3
  go_wp2
  refine bodyPost_ret (v := .agg #[.slice b1 st.length d1, .slice b3 lf.length d3, .slice b5 ln.length d5]) (by simp [results, Try.results16, go_sem, q0, q1, q2]) rfl ⟨_, _, _, rfl, ?_, ?_⟩
  · rw [HH.out]
    exact ((((HF5.out.setCell (by simp) _).setCell (by simp) _).setCell (by simp) _).setCell (by simp) _).mono (by omega)
  · rw [HH.out]
    exact (((HB5.out.setCell (by simp; omega) _).setCell (by simp) _).setCell (by simp) _).setCell (by simp) _

set_option maxRecDepth 100000 in
set_option maxHeartbeats 1000000 in
theorem eqPair_same (W : World) (x y z x' y' z' : Value) (p : PR) (h : Reads3 W x y z p) (h' : Reads3 W x' y' z' p) (h1 : p.st.length ≤ 1048576) (h2 : p.lf.length ≤ 1048576) (h3 : p.ln.length ≤ 1048576) :
    Calls Try.prog 11 #[.agg #[x, y, z], .agg #[x', y', z']] W fun e W' => e = .returned (.bool true) ∧ Below W.heap.size W W' := by
  obtain ⟨a1, c1, rfl⟩ := h.st.shape
  obtain ⟨a2, c2, rfl⟩ := h.lf.shape
  obtain ⟨a3, c3, rfl⟩ := h.ln.shape
  obtain ⟨b1, d1, rfl⟩ := h'.st.shape
  obtain ⟨b2, d2, rfl⟩ := h'.lf.shape
  obtain ⟨b3, d3, rfl⟩ := h'.ln.shape
  have HR : Hid (∀ W1, Below W.heap.size W W1 → Reads3 W1 (.slice a1 p.st.length c1) (.slice a2 p.lf.length c2) (.slice a3 p.ln.length c3) p) := fun W1 hb => h.below hb
  have HR' : Hid (∀ W1, Below W.heap.size W W1 → Reads3 W1 (.slice b1 p.st.length d1) (.slice b2 p.lf.length d2) (.slice b3 p.ln.length d3) p) := fun W1 hb => h'.below hb
  have HB0 : Hid (Below W.heap.size W ((W.alloc (.cells #[.slice a1 p.st.length c1, .slice a2 p.lf.length c2, .slice a3 p.ln.length c3] 25)).alloc (.cells #[.slice b1 p.st.length d1, .slice b2 p.lf.length d2, .slice b3 p.ln.length d3] 25))) :=
    ((Below.refl _ W).alloc (Nat.le_refl _) _).alloc (by simp) _
  have H1 : Hid (p.st.length ≤ 4194304) := by show _ ≤ _; omega
  have H2 : Hid (p.lf.length ≤ 4194304) := by show _ ≤ _; omega
  have H3 : Hid (p.ln.length ≤ 4194304) := by show _ ≤ _; omega
  clear h h' h1 h2 h3
  go_enter Try.func11, Try.ntmps11
  go_wp2_with fail
  refine (eqInts_same _ _ _ p.st (HR.out _ HB0.out).st (HR'.out _ HB0.out).st H1.out).mono ?_
  rintro e w1 ⟨rfl, n, rfl⟩
  go_wp2_with fail
  refine (eqInts_same _ _ _ p.lf (HR.out _ (below_drewN HB0.out n)).lf (HR'.out _ (below_drewN HB0.out n)).lf H2.out).mono ?_
  rintro e w1 ⟨rfl, n2, rfl⟩
  go_wp2_with fail
  refine (eqHellos_same _ _ _ p.ln (HR.out _ (below_drewN HB0.out (n + n2))).ln (HR'.out _ (below_drewN HB0.out (n + n2))).ln H3.out).mono ?_
  rintro e w2 ⟨rfl, hb⟩
  have HB2 : Hid (Below W.heap.size W w2) := (below_drewN HB0.out (n + n2)).trans (hb.mono (by simp; omega))
  clear hb
  go_wp2
  go_ret
  exact ⟨rfl, HB2.out⟩

/-- What a mark leaves of other rows. -/
theorem Own.far {W W' : World} {B : Nat} {v : Value} {zs : List Int} {u : Value} (h : Own W B v zs) (hg : W.grownBy W' u.ownBlock) (hne : ∀ k, u.ownBlock = some k → v.ownBlock ≠ some k) : Own W' B v zs := h.grow hg hne

/-- A pair with marks from k on. -/
def markPr (p : PR) (k : Nat) : PR := ⟨marks (k : Int) p.st.length, marks ((k + p.st.length : Nat) : Int) p.lf.length, marksH (k + p.st.length + p.lf.length) p.ln.length⟩
def endPr (p : PR) (k : Nat) : Nat := k + p.st.length + p.lf.length + 2 * p.ln.length

set_option maxRecDepth 100000 in
set_option maxHeartbeats 2000000 in
theorem markPair_any (W : World) (B : Nat) (x y z : Value) (p : PR) (k0 : Nat) (h : Own3 W B x y z p) (hB : B ≤ W.heap.size) (h1 : p.st.length ≤ 1048576) (h2 : p.lf.length ≤ 1048576) (h3 : p.ln.length ≤ 1048576) (hk : k0 ≤ 1000000) :
    Calls Try.prog 12 #[.agg #[x, y, z], .int .i64 (k0 : Int)] W fun e W' => e = .returned (.int .i64 (endPr p k0 : Int)) ∧ Own3 W' B x y z (markPr p k0) ∧ Below B W W' ∧ Keep W W' x y z := by
  obtain ⟨st, lf, ln⟩ := p
  simp only at h1 h2 h3
  obtain ⟨a1, c1, rfl⟩ := h.st.shape
  obtain ⟨a2, c2, rfl⟩ := h.lf.shape
  obtain ⟨a3, c3, rfl⟩ := h.ln.shape
  simp only at h ⊢
  have HO : Hid (Own3 (W.alloc (.cells #[.slice a1 st.length c1, .slice a2 lf.length c2, .slice a3 ln.length c3] 25)) B (.slice a1 st.length c1) (.slice a2 lf.length c2) (.slice a3 ln.length c3) ⟨st, lf, ln⟩) := h.below ((Below.refl _ W).alloc (Nat.le_refl _) _)
  have HX : Hid (Bx3 (W.alloc (.cells #[.slice a1 st.length c1, .slice a2 lf.length c2, .slice a3 ln.length c3] 25)) W.heap.size (.slice a1 st.length c1) (.slice a2 lf.length c2) (.slice a3 ln.length c3)) := Bx3.new _ _ _ _ _
  have HB : Hid (Below B W (W.alloc (.cells #[.slice a1 st.length c1, .slice a2 lf.length c2, .slice a3 ln.length c3] 25))) := (Below.refl _ W).alloc hB _
  have hB1 : B ≤ (W.alloc (.cells #[.slice a1 st.length c1, .slice a2 lf.length c2, .slice a3 ln.length c3] 25)).heap.size := by simp; omega
  have HLT : Hid (∀ k, (Value.slice a1 st.length c1).ownBlock = some k ∨ (Value.slice a2 lf.length c2).ownBlock = some k ∨ (Value.slice a3 ln.length c3).ownBlock = some k → B ≤ k ∧ k < W.heap.size) := fun k hk => by
    rcases hk with hk | hk | hk
    · exact World.ownsRow.lt h.st k hk
    · exact World.ownsRow.lt h.lf k hk
    · exact World.ownsRow.lt h.ln k hk
  have HZ : Hid (Keep W (W.alloc (.cells #[.slice a1 st.length c1, .slice a2 lf.length c2, .slice a3 ln.length c3] 25)) (.slice a1 st.length c1) (.slice a2 lf.length c2) (.slice a3 ln.length c3)) := ⟨by simp, fun b hb _ => Below.heap_alloc _ _ b hb⟩
  have HKK : Hid (∀ {w w' : World}, Keep W w (.slice a1 st.length c1) (.slice a2 lf.length c2) (.slice a3 ln.length c3) → ∀ {row : Option Nat}, w.grownBy w' row → (∀ k, row = some k → Has (.slice a1 st.length c1) (.slice a2 lf.length c2) (.slice a3 ln.length c3) k) → Keep W w' (.slice a1 st.length c1) (.slice a2 lf.length c2) (.slice a3 ln.length c3)) := fun hk _ hg hr =>
    ⟨Nat.le_trans hk.size hg.size, fun b hb hn => (hg.block b (Nat.lt_of_lt_of_le hb hk.size) (fun e => hn (hr b e.symm))).trans (hk.block b hb hn)⟩
  clear h
  have HE : Hid ((endPr ⟨st, lf, ln⟩ k0 : Int) = ((k0 + st.length + lf.length + 2 * ln.length : Nat) : Int)) := rfl
  rw [HE.out]
  go_enter Try.func12, Try.ntmps12
  go_wp2_with fail
  generalize hw : W.alloc (.cells #[.slice a1 st.length c1, .slice a2 lf.length c2, .slice a3 ln.length c3] 25) = w0 at *
  clear hw
  refine (markInts_any w0 B _ _ st HO.out.st (by omega) (by omega) (by omega)).mono ?_
  rintro e w1 ⟨rfl, ho1, hz1, hg1⟩
  have HO1 : Hid (Own3 w1 B (.slice a1 st.length c1) (.slice a2 lf.length c2) (.slice a3 ln.length c3) ⟨marks (k0 : Int) st.length, lf, ln⟩) := by
    refine ⟨?_, HO.out.lf.grow hg1 HO.out.apart, HO.out.ln.grow hg1 (fun k hk hk2 => hello_apart HO.out.ln HO.out.st k hk2 hk), HO.out.apart⟩
    have := ho1
    exact this
  have hX : ∀ {w w'}, Bx3 w W.heap.size (.slice a1 st.length c1) (.slice a2 lf.length c2) (.slice a3 ln.length c3) → ∀ {row : Option Nat}, w.grownBy w' row → (∀ k, row = some k → k < W.heap.size) → Bx3 w' W.heap.size (.slice a1 st.length c1) (.slice a2 lf.length c2) (.slice a3 ln.length c3) := fun hx _ hg hr => by
    have e := hg.block W.heap.size hx.lt (fun e => by have := hr _ e.symm; omega)
    exact ⟨Nat.lt_of_lt_of_le hx.lt hg.size, (World.cell?_of_block e).trans hx.c0, (World.cell?_of_block e).trans hx.c1, (World.cell?_of_block e).trans hx.c2, fun j => (World.frozen?_of_block e).trans (hx.fz j)⟩
  have HX1 : Hid (Bx3 w1 W.heap.size (.slice a1 st.length c1) (.slice a2 lf.length c2) (.slice a3 ln.length c3)) := hX HX.out hg1 (fun k hk => (HLT.out k (.inl hk)).2)
  have HB1 : Hid (Below B W w1) := HB.out.grown hg1 hB1 (fun k hk => (HLT.out k (.inl hk)).1)
  have hs1 : B ≤ w1.heap.size := by rw [hz1]; exact hB1
  have HZ1 : Hid (Keep W w1 (.slice a1 st.length c1) (.slice a2 lf.length c2) (.slice a3 ln.length c3)) := HKK.out HZ.out hg1 (fun k hk => .inl hk)
  have HXX : Hid (∀ {w w'}, Bx3 w W.heap.size (.slice a1 st.length c1) (.slice a2 lf.length c2) (.slice a3 ln.length c3) → ∀ {row : Option Nat}, w.grownBy w' row → (∀ k, row = some k → k < W.heap.size) → Bx3 w' W.heap.size (.slice a1 st.length c1) (.slice a2 lf.length c2) (.slice a3 ln.length c3)) := hX
  clear ho1 hg1 hX HX HO HB hz1 hB1
  have q1 := HX1.out.c1
  go_wp2_with fail
  refine (markInts_any w1 B _ _ lf HO1.out.lf (by omega) (by omega) (by omega)).mono ?_
  rintro e w2 ⟨rfl, ho2, hz2, hg2⟩
  have HO2 : Hid (Own3 w2 B (.slice a1 st.length c1) (.slice a2 lf.length c2) (.slice a3 ln.length c3) ⟨marks (k0 : Int) st.length, marks ((k0 : Int) + (st.length : Int)) lf.length, ln⟩) :=
    ⟨HO1.out.st.grow hg2 (fun k hk hk2 => HO1.out.apart k hk2 hk), ho2, HO1.out.ln.grow hg2 (fun k hk hk2 => hello_apart HO1.out.ln HO1.out.lf k hk2 hk), HO1.out.apart⟩
  have HX2 : Hid (Bx3 w2 W.heap.size (.slice a1 st.length c1) (.slice a2 lf.length c2) (.slice a3 ln.length c3)) := HXX.out HX1.out hg2 (fun k hk => (HLT.out k (.inr (.inl hk))).2)
  have HB2 : Hid (Below B W w2) := HB1.out.grown hg2 hs1 (fun k hk => (HLT.out k (.inr (.inl hk))).1)
  have hs2 : B ≤ w2.heap.size := by rw [hz2]; exact hs1
  have HZ2 : Hid (Keep W w2 (.slice a1 st.length c1) (.slice a2 lf.length c2) (.slice a3 ln.length c3)) := HKK.out HZ1.out hg2 (fun k hk => .inr (.inl hk))
  clear ho2 hg2 HX1 HO1 HB1 hz2 hs1 q1
  have q2 := HX2.out.c2
  have EK : Hid ((k0 : Int) + (st.length : Int) + (lf.length : Int) = ((k0 + st.length + lf.length : Nat) : Int)) := by show _ = _; omega
  go_wp2_with fail
  rw [EK.out]
  refine (markHellos_any w2 B _ (k0 + st.length + lf.length) ln HO2.out.ln (by omega) (by omega)).mono ?_
  rintro e w3 ⟨rfl, ho3, hz3, hg3⟩
  have HO3 : Hid (Own3 w3 B (.slice a1 st.length c1) (.slice a2 lf.length c2) (.slice a3 ln.length c3) (markPr ⟨st, lf, ln⟩ k0)) := by
    refine ⟨HO2.out.st.grow hg3 (fun k hk => hello_apart HO2.out.ln HO2.out.st k hk), ?_, ho3, HO2.out.apart⟩
    have := HO2.out.lf.grow hg3 (fun k hk => hello_apart HO2.out.ln HO2.out.lf k hk)
    show Own _ _ _ (marks ((k0 + st.length : Nat) : Int) lf.length)
    rw [show ((k0 + st.length : Nat) : Int) = (k0 : Int) + (st.length : Int) from by omega]
    exact this
  have HB3 : Hid (Below B W w3) := HB2.out.grown hg3 hs2 (fun k hk => (HLT.out k (.inr (.inr hk))).1)
  have HZ3 : Hid (Keep W w3 (.slice a1 st.length c1) (.slice a2 lf.length c2) (.slice a3 ln.length c3)) := HKK.out HZ2.out hg3 (fun k hk => .inr (.inr hk))
  clear ho3 hz3 hg3 HX2 HO2 HB2 hs2 q2
  go_wp2
  go_ret
  exact ⟨rfl, HO3.out, HB3.out, HZ3.out⟩

set_option maxRecDepth 100000 in
set_option maxHeartbeats 2000000 in
theorem heldPair_yes (W : World) (x y z : Value) (p : PR) (k0 : Nat) (h : Reads3 W x y z (markPr p k0)) (h1 : p.st.length ≤ 1048576) (h2 : p.lf.length ≤ 1048576) (h3 : p.ln.length ≤ 1048576) (hk : k0 ≤ 1000000) :
    Calls Try.prog 13 #[.agg #[x, y, z], .int .i64 (k0 : Int)] W fun e W' => e = .returned (.int .i64 (endPr p k0 : Int)) ∧ Below W.heap.size W W' := by
  obtain ⟨st, lf, ln⟩ := p
  simp only at h1 h2 h3
  obtain ⟨a1, c1, rfl⟩ := h.st.shape
  obtain ⟨a2, c2, rfl⟩ := h.lf.shape
  obtain ⟨a3, c3, rfl⟩ := h.ln.shape
  simp only [markPr, marks_len, marksH_len] at h ⊢
  have HO : Hid (∀ W1, Below W.heap.size W W1 → Reads3 W1 (.slice a1 st.length c1) (.slice a2 lf.length c2) (.slice a3 ln.length c3) ⟨marks (k0 : Int) st.length, marks ((k0 + st.length : Nat) : Int) lf.length, marksH (k0 + st.length + lf.length) ln.length⟩) := fun W1 hb => h.below hb
  have HB : Hid (Below W.heap.size W (W.alloc (.cells #[.slice a1 st.length c1, .slice a2 lf.length c2, .slice a3 ln.length c3] 25))) := (Below.refl _ W).alloc (Nat.le_refl _) _
  clear h
  have HE : Hid ((endPr ⟨st, lf, ln⟩ k0 : Int) = ((k0 + st.length + lf.length + 2 * ln.length : Nat) : Int)) := rfl
  rw [HE.out]
  have ek : (k0 : Int) + (st.length : Int) = ((k0 + st.length : Nat) : Int) := by omega
  have ek2 : ((k0 + st.length : Nat) : Int) + (lf.length : Int) = ((k0 + st.length + lf.length : Nat) : Int) := by omega
  have HE1 : Hid ((k0 : Int) + (st.length : Int) = ((k0 + st.length : Nat) : Int)) := ek
  have HE2 : Hid (((k0 + st.length : Nat) : Int) + (lf.length : Int) = ((k0 + st.length + lf.length : Nat) : Int)) := ek2
  clear ek ek2
  generalize hm1 : k0 + st.length = m1 at *
  generalize hm2 : m1 + lf.length = m2 at *
  generalize hm3 : m2 + 2 * ln.length = m3 at *
  have n1 : ¬ (m1 : Int) < 0 := by omega
  have n2 : ¬ (m2 : Int) < 0 := by omega
  have n3 : ¬ (m3 : Int) < 0 := by omega
  go_enter Try.func13, Try.ntmps13
  go_wp2_with fail
  refine (heldInts_yes _ _ _ st.length (HO.out _ HB.out).st (by omega) (by omega) (by omega)).mono ?_
  rintro e w1 ⟨rfl, rfl⟩
  rw [HE1.out]
  go_wp2_with fail
  refine (heldInts_yes _ _ _ lf.length (HO.out _ HB.out).lf (by omega) (by omega) (by omega)).mono ?_
  rintro e w1 ⟨rfl, rfl⟩
  rw [HE2.out]
  go_wp2_with fail
  refine (heldHellos_yes _ _ m2 ln.length (HO.out _ HB.out).ln (by omega) (by omega)).mono ?_
  rintro e w1 ⟨rfl, rfl⟩
  rw [hm3]
  go_wp2
  go_ret
  exact ⟨rfl, HB.out⟩
end Go.Proofs.Ytchddjidjfpehat
