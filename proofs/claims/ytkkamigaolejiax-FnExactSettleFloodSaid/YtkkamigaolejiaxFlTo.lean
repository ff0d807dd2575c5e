/-
  'toFlood', 'eqFlood'.
-/
import Derived.Test.YtkkamigaolejiaxFlRead
namespace Go.Proofs.Ytkkamigaolejiax
open Go.RowKit
set_option linter.unusedVariables false

theorem in4 {zss : List (List Int)} (h : ∀ j (hj : j < zss.length), zss[j].length ≤ 1048576) : ∀ j (hj : j < zss.length), zss[j].length ≤ 4194304 := fun j hj => by have := h j hj; omega

set_option maxRecDepth 100000 in
set_option maxHeartbeats 4000000 in
theorem toFlood_any (W : World) (x y z l : Value) (f : FD) (h : ReadsF W x y z l f) (hf : FitF f) :
    Calls Try.prog 9 #[.agg #[x, y, z, l]] W fun e W' => ∃ x' y' z' l', e = .returned (.agg #[x', y', z', l']) ∧ (∃ xs ys zs, OwnF W' W.heap.size x' y' z' l' xs ys zs f) ∧ Below W.heap.size W W' := by
  have HR : Hid (∀ W1, Below W.heap.size W W1 → ReadsF W1 x y z l f) := fun W1 hb => h.below hb
  have HF : Hid (FitF f) := hf
  obtain ⟨a0, c0, rfl⟩ := h.lk.shape
  obtain ⟨a1, c1, rfl⟩ := h.kn.shape
  obtain ⟨a2, c2, rfl⟩ := h.ow.shape
  obtain ⟨a3, c3, rfl⟩ := h.ln.shape
  have HB0 : Hid (Below W.heap.size W (((W.alloc (.cells #[.slice a0 f.lk.length c0, .slice a1 f.kn.length c1, .slice a2 f.ow.length c2, .slice a3 f.ln.length c3] 25)).alloc (.cells #[.slice none 0 0, .slice none 0 0, .slice none 0 0, .slice none 0 0] 31)).alloc (.cells #[.slice none 0 0, .slice none 0 0, .slice none 0 0, .slice none 0 0] 31))) :=
    (((Below.refl _ W).alloc (Nat.le_refl _) _).alloc (by simp) _).alloc (by simp; omega) _
  have HX0 : Hid (Bx4 (((W.alloc (.cells #[.slice a0 f.lk.length c0, .slice a1 f.kn.length c1, .slice a2 f.ow.length c2, .slice a3 f.ln.length c3] 25)).alloc (.cells #[.slice none 0 0, .slice none 0 0, .slice none 0 0, .slice none 0 0] 31)).alloc (.cells #[.slice none 0 0, .slice none 0 0, .slice none 0 0, .slice none 0 0] 31)) W.heap.size (.slice a0 f.lk.length c0) (.slice a1 f.kn.length c1) (.slice a2 f.ow.length c2) (.slice a3 f.ln.length c3)) :=
    ((Bx4.new W (.slice a0 f.lk.length c0) (.slice a1 f.kn.length c1) (.slice a2 f.ow.length c2) (.slice a3 f.ln.length c3) 25).below ((Below.refl _ _).alloc (Nat.le_refl _) (.cells #[.slice none 0 0, .slice none 0 0, .slice none 0 0, .slice none 0 0] 31))).below ((Below.refl _ _).alloc (Nat.le_refl _) (.cells #[.slice none 0 0, .slice none 0 0, .slice none 0 0, .slice none 0 0] 31))
  have HQ0 : Hid (Bx4 (((W.alloc (.cells #[.slice a0 f.lk.length c0, .slice a1 f.kn.length c1, .slice a2 f.ow.length c2, .slice a3 f.ln.length c3] 25)).alloc (.cells #[.slice none 0 0, .slice none 0 0, .slice none 0 0, .slice none 0 0] 31)).alloc (.cells #[.slice none 0 0, .slice none 0 0, .slice none 0 0, .slice none 0 0] 31)) (W.heap.size + 1) (.slice none 0 0) (.slice none 0 0) (.slice none 0 0) (.slice none 0 0)) := by
    have := (Bx4.new (W.alloc (.cells #[.slice a0 f.lk.length c0, .slice a1 f.kn.length c1, .slice a2 f.ow.length c2, .slice a3 f.ln.length c3] 25)) (.slice none 0 0) (.slice none 0 0) (.slice none 0 0) (.slice none 0 0) 31).below ((Below.refl _ _).alloc (Nat.le_refl _) (.cells #[.slice none 0 0, .slice none 0 0, .slice none 0 0, .slice none 0 0] 31))
    exact (show Bx4 _ _ _ _ _ _ by simpa using this)
  have HP0 : Hid (Bx4 (((W.alloc (.cells #[.slice a0 f.lk.length c0, .slice a1 f.kn.length c1, .slice a2 f.ow.length c2, .slice a3 f.ln.length c3] 25)).alloc (.cells #[.slice none 0 0, .slice none 0 0, .slice none 0 0, .slice none 0 0] 31)).alloc (.cells #[.slice none 0 0, .slice none 0 0, .slice none 0 0, .slice none 0 0] 31)) (W.heap.size + 1 + 1) (.slice none 0 0) (.slice none 0 0) (.slice none 0 0) (.slice none 0 0)) := by
    have := Bx4.new ((W.alloc (.cells #[.slice a0 f.lk.length c0, .slice a1 f.kn.length c1, .slice a2 f.ow.length c2, .slice a3 f.ln.length c3] 25)).alloc (.cells #[.slice none 0 0, .slice none 0 0, .slice none 0 0, .slice none 0 0] 31)) (.slice none 0 0) (.slice none 0 0) (.slice none 0 0) (.slice none 0 0) 31
    exact (show Bx4 _ _ _ _ _ _ by simpa using this)
  have hs0 : W.heap.size + 3 ≤ (((W.alloc (.cells #[.slice a0 f.lk.length c0, .slice a1 f.kn.length c1, .slice a2 f.ow.length c2, .slice a3 f.ln.length c3] 25)).alloc (.cells #[.slice none 0 0, .slice none 0 0, .slice none 0 0, .slice none 0 0] 31)).alloc (.cells #[.slice none 0 0, .slice none 0 0, .slice none 0 0, .slice none 0 0] 31)).heap.size := by simp
  clear h hf
  go_enter Try.func9, Try.ntmps9
  go_wp2_with fail
  generalize (((W.alloc (.cells #[.slice a0 f.lk.length c0, .slice a1 f.kn.length c1, .slice a2 f.ow.length c2, .slice a3 f.ln.length c3] 25)).alloc (.cells #[.slice none 0 0, .slice none 0 0, .slice none 0 0, .slice none 0 0] 31)).alloc (.cells #[.slice none 0 0, .slice none 0 0, .slice none 0 0, .slice none 0 0] 31)) = u0 at *
  generalize hHW : W.heap.size = H at *
  have HH : Hid (W.heap.size = H) := hHW
  clear hHW
  refine (toSS_any u0 _ f.lk (HR.out _ HB0.out).lk (by have := HF.out.lk; omega) (in4 HF.out.lki)).mono ?_
  rintro e w0 ⟨v0, rfl, ⟨vs0, ho0⟩, hb0⟩
  obtain ⟨b0, d0, hv0⟩ := ho0.shape
  subst hv0
  have HO0 : Hid (OwnSS w0 (H + 3) (.slice b0 f.lk.length d0) vs0 f.lk) := ho0.mono hs0
  have HB0w : Hid (Below H W w0) := HB0.out.trans (hb0.mono (by omega))
  have HXw0 : Hid (Bx4 w0 H (.slice a0 f.lk.length c0) (.slice a1 f.kn.length c1) (.slice a2 f.ow.length c2) (.slice a3 f.ln.length c3)) := HX0.out.below hb0
  have HQw0 : Hid (Bx4 w0 (H + 1) (.slice none 0 0) (.slice none 0 0) (.slice none 0 0) (.slice none 0 0)) := HQ0.out.below hb0
  have HPw0 : Hid (Bx4 w0 (H + 1 + 1) (.slice none 0 0) (.slice none 0 0) (.slice none 0 0) (.slice none 0 0)) := HP0.out.below hb0
  have hsw0 : H + 3 ≤ w0.heap.size := Nat.le_trans hs0 hb0.size
  clear ho0 hb0 HB0 HX0 HQ0 HP0 hs0 
  obtain ⟨-, x0, x1, x2, x3, -⟩ := HXw0.out
  obtain ⟨-, p0, p1, p2, p3, pf⟩ := HPw0.out
  obtain ⟨-, q0, q1, q2, q3, qf⟩ := HQw0.out
  have HO0_0 : Hid (OwnSS (w0.setCell ⟨H + 1 + 1, 0, none⟩ (.slice b0 f.lk.length d0)) (H + 3) (.slice b0 f.lk.length d0) vs0 f.lk) := HO0.out.setCell (by simp) _
  have HB1 : Hid (Below H W (w0.setCell ⟨H + 1 + 1, 0, none⟩ (.slice b0 f.lk.length d0))) := HB0w.out.setCell (by simp; omega) _
  have HX1 : Hid (Bx4 (w0.setCell ⟨H + 1 + 1, 0, none⟩ (.slice b0 f.lk.length d0)) H (.slice a0 f.lk.length c0) (.slice a1 f.kn.length c1) (.slice a2 f.ow.length c2) (.slice a3 f.ln.length c3)) := HXw0.out.other (by simp; omega) _
  have HQ1 : Hid (Bx4 (w0.setCell ⟨H + 1 + 1, 0, none⟩ (.slice b0 f.lk.length d0)) (H + 1) (.slice none 0 0) (.slice none 0 0) (.slice none 0 0) (.slice none 0 0)) := HQw0.out.other (by simp) _
  have HP1 : Hid (Bx4 (w0.setCell ⟨H + 1 + 1, 0, none⟩ (.slice b0 f.lk.length d0)) (H + 1 + 1) (.slice b0 f.lk.length d0) (.slice none 0 0) (.slice none 0 0) (.slice none 0 0)) := HPw0.out.put0 _
  have hs1 : H + 3 ≤ (w0.setCell ⟨H + 1 + 1, 0, none⟩ (.slice b0 f.lk.length d0)).heap.size := by simpa [World.setCell] using hsw0
  clear HB0w HXw0 HQw0 HPw0 hsw0 HO0 
  clear qf
  go_wp2_with fail
  generalize (w0.setCell ⟨H + 1 + 1, 0, none⟩ (.slice b0 f.lk.length d0)) = u1 at *
  refine (toSS_any u1 _ f.kn (HR.out _ HB1.out).kn (by have := HF.out.kn; omega) (in4 HF.out.kni)).mono ?_
  clear q0 q1 q2 q3 p0 p1 p2 p3 pf x0 x1 x2 x3
  rintro e w1 ⟨v1, rfl, ⟨vs1, ho1⟩, hb1⟩
  obtain ⟨b1, d1, hv1⟩ := ho1.shape
  subst hv1
  have HO1 : Hid (OwnSS w1 (H + 3) (.slice b1 f.kn.length d1) vs1 f.kn) := ho1.mono hs1
  have HA01 : Hid (ApartSS (.slice b0 f.lk.length d0) vs0 (.slice b1 f.kn.length d1) vs1) := apartSS_lt HO0_0.out ho1 (Nat.le_refl _)
  have HO0_1w : Hid (OwnSS w1 (H + 3) (.slice b0 f.lk.length d0) vs0 f.lk) := HO0_0.out.below hb1
  have HB1w : Hid (Below H W w1) := HB1.out.trans (hb1.mono (by omega))
  have HXw1 : Hid (Bx4 w1 H (.slice a0 f.lk.length c0) (.slice a1 f.kn.length c1) (.slice a2 f.ow.length c2) (.slice a3 f.ln.length c3)) := HX1.out.below hb1
  have HQw1 : Hid (Bx4 w1 (H + 1) (.slice none 0 0) (.slice none 0 0) (.slice none 0 0) (.slice none 0 0)) := HQ1.out.below hb1
  have HPw1 : Hid (Bx4 w1 (H + 1 + 1) (.slice b0 f.lk.length d0) (.slice none 0 0) (.slice none 0 0) (.slice none 0 0)) := HP1.out.below hb1
  have hsw1 : H + 3 ≤ w1.heap.size := Nat.le_trans hs1 hb1.size
  clear ho1 hb1 HB1 HX1 HQ1 HP1 hs1 HO0_0
  obtain ⟨-, x0, x1, x2, x3, -⟩ := HXw1.out
  obtain ⟨-, p0, p1, p2, p3, pf⟩ := HPw1.out
  obtain ⟨-, q0, q1, q2, q3, qf⟩ := HQw1.out
  have HO0_1 : Hid (OwnSS (w1.setCell ⟨H + 1 + 1, 1, none⟩ (.slice b1 f.kn.length d1)) (H + 3) (.slice b0 f.lk.length d0) vs0 f.lk) := HO0_1w.out.setCell (by simp) _
  have HO1_1 : Hid (OwnSS (w1.setCell ⟨H + 1 + 1, 1, none⟩ (.slice b1 f.kn.length d1)) (H + 3) (.slice b1 f.kn.length d1) vs1 f.kn) := HO1.out.setCell (by simp) _
  have HB2 : Hid (Below H W (w1.setCell ⟨H + 1 + 1, 1, none⟩ (.slice b1 f.kn.length d1))) := HB1w.out.setCell (by simp; omega) _
  have HX2 : Hid (Bx4 (w1.setCell ⟨H + 1 + 1, 1, none⟩ (.slice b1 f.kn.length d1)) H (.slice a0 f.lk.length c0) (.slice a1 f.kn.length c1) (.slice a2 f.ow.length c2) (.slice a3 f.ln.length c3)) := HXw1.out.other (by simp; omega) _
  have HQ2 : Hid (Bx4 (w1.setCell ⟨H + 1 + 1, 1, none⟩ (.slice b1 f.kn.length d1)) (H + 1) (.slice none 0 0) (.slice none 0 0) (.slice none 0 0) (.slice none 0 0)) := HQw1.out.other (by simp) _
  have HP2 : Hid (Bx4 (w1.setCell ⟨H + 1 + 1, 1, none⟩ (.slice b1 f.kn.length d1)) (H + 1 + 1) (.slice b0 f.lk.length d0) (.slice b1 f.kn.length d1) (.slice none 0 0) (.slice none 0 0)) := HPw1.out.put1 _
  have hs2 : H + 3 ≤ (w1.setCell ⟨H + 1 + 1, 1, none⟩ (.slice b1 f.kn.length d1)).heap.size := by simpa [World.setCell] using hsw1
  clear HB1w HXw1 HQw1 HPw1 hsw1 HO1 HO0_1w
  clear qf
  go_wp2_with fail
  generalize (w1.setCell ⟨H + 1 + 1, 1, none⟩ (.slice b1 f.kn.length d1)) = u2 at *
  refine (toSS_any u2 _ f.ow (HR.out _ HB2.out).ow (by have := HF.out.ow; omega) (in4 HF.out.owi)).mono ?_
  clear q0 q1 q2 q3 p0 p1 p2 p3 pf x0 x1 x2 x3
  rintro e w2 ⟨v2, rfl, ⟨vs2, ho2⟩, hb2⟩
  obtain ⟨b2, d2, hv2⟩ := ho2.shape
  subst hv2
  have HO2 : Hid (OwnSS w2 (H + 3) (.slice b2 f.ow.length d2) vs2 f.ow) := ho2.mono hs2
  have HA02 : Hid (ApartSS (.slice b0 f.lk.length d0) vs0 (.slice b2 f.ow.length d2) vs2) := apartSS_lt HO0_1.out ho2 (Nat.le_refl _)
  have HA12 : Hid (ApartSS (.slice b1 f.kn.length d1) vs1 (.slice b2 f.ow.length d2) vs2) := apartSS_lt HO1_1.out ho2 (Nat.le_refl _)
  have HO0_2w : Hid (OwnSS w2 (H + 3) (.slice b0 f.lk.length d0) vs0 f.lk) := HO0_1.out.below hb2
  have HO1_2w : Hid (OwnSS w2 (H + 3) (.slice b1 f.kn.length d1) vs1 f.kn) := HO1_1.out.below hb2
  have HB2w : Hid (Below H W w2) := HB2.out.trans (hb2.mono (by omega))
  have HXw2 : Hid (Bx4 w2 H (.slice a0 f.lk.length c0) (.slice a1 f.kn.length c1) (.slice a2 f.ow.length c2) (.slice a3 f.ln.length c3)) := HX2.out.below hb2
  have HQw2 : Hid (Bx4 w2 (H + 1) (.slice none 0 0) (.slice none 0 0) (.slice none 0 0) (.slice none 0 0)) := HQ2.out.below hb2
  have HPw2 : Hid (Bx4 w2 (H + 1 + 1) (.slice b0 f.lk.length d0) (.slice b1 f.kn.length d1) (.slice none 0 0) (.slice none 0 0)) := HP2.out.below hb2
  have hsw2 : H + 3 ≤ w2.heap.size := Nat.le_trans hs2 hb2.size
  clear ho2 hb2 HB2 HX2 HQ2 HP2 hs2 HO0_1 HO1_1
  obtain ⟨-, x0, x1, x2, x3, -⟩ := HXw2.out
  obtain ⟨-, p0, p1, p2, p3, pf⟩ := HPw2.out
  obtain ⟨-, q0, q1, q2, q3, qf⟩ := HQw2.out
  have HO0_2 : Hid (OwnSS (w2.setCell ⟨H + 1 + 1, 2, none⟩ (.slice b2 f.ow.length d2)) (H + 3) (.slice b0 f.lk.length d0) vs0 f.lk) := HO0_2w.out.setCell (by simp) _
  have HO1_2 : Hid (OwnSS (w2.setCell ⟨H + 1 + 1, 2, none⟩ (.slice b2 f.ow.length d2)) (H + 3) (.slice b1 f.kn.length d1) vs1 f.kn) := HO1_2w.out.setCell (by simp) _
  have HO2_2 : Hid (OwnSS (w2.setCell ⟨H + 1 + 1, 2, none⟩ (.slice b2 f.ow.length d2)) (H + 3) (.slice b2 f.ow.length d2) vs2 f.ow) := HO2.out.setCell (by simp) _
  have HB3 : Hid (Below H W (w2.setCell ⟨H + 1 + 1, 2, none⟩ (.slice b2 f.ow.length d2))) := HB2w.out.setCell (by simp; omega) _
  have HX3 : Hid (Bx4 (w2.setCell ⟨H + 1 + 1, 2, none⟩ (.slice b2 f.ow.length d2)) H (.slice a0 f.lk.length c0) (.slice a1 f.kn.length c1) (.slice a2 f.ow.length c2) (.slice a3 f.ln.length c3)) := HXw2.out.other (by simp; omega) _
  have HQ3 : Hid (Bx4 (w2.setCell ⟨H + 1 + 1, 2, none⟩ (.slice b2 f.ow.length d2)) (H + 1) (.slice none 0 0) (.slice none 0 0) (.slice none 0 0) (.slice none 0 0)) := HQw2.out.other (by simp) _
  have HP3 : Hid (Bx4 (w2.setCell ⟨H + 1 + 1, 2, none⟩ (.slice b2 f.ow.length d2)) (H + 1 + 1) (.slice b0 f.lk.length d0) (.slice b1 f.kn.length d1) (.slice b2 f.ow.length d2) (.slice none 0 0)) := HPw2.out.put2 _
  have hs3 : H + 3 ≤ (w2.setCell ⟨H + 1 + 1, 2, none⟩ (.slice b2 f.ow.length d2)).heap.size := by simpa [World.setCell] using hsw2
  clear HB2w HXw2 HQw2 HPw2 hsw2 HO2 HO0_2w HO1_2w
  clear qf
  go_wp2_with fail
  generalize (w2.setCell ⟨H + 1 + 1, 2, none⟩ (.slice b2 f.ow.length d2)) = u3 at *
  refine (toLts_any u3 _ f.ln (HR.out _ HB3.out).ln (by have := HF.out.ln; omega)).mono ?_
  clear q0 q1 q2 q3 p0 p1 p2 p3 pf x0 x1 x2 x3
  rintro e w3 ⟨v3, rfl, ho3, hb3⟩
  obtain ⟨b3, d3, hv3⟩ := ho3.shape
  subst hv3
  have HO3 : Hid (OwnLt w3 (H + 3) (.slice b3 f.ln.length d3) f.ln) := ho3.mono hs3
  have HO0_3w : Hid (OwnSS w3 (H + 3) (.slice b0 f.lk.length d0) vs0 f.lk) := HO0_2.out.below hb3
  have HO1_3w : Hid (OwnSS w3 (H + 3) (.slice b1 f.kn.length d1) vs1 f.kn) := HO1_2.out.below hb3
  have HO2_3w : Hid (OwnSS w3 (H + 3) (.slice b2 f.ow.length d2) vs2 f.ow) := HO2_2.out.below hb3
  have HB3w : Hid (Below H W w3) := HB3.out.trans (hb3.mono (by omega))
  have HXw3 : Hid (Bx4 w3 H (.slice a0 f.lk.length c0) (.slice a1 f.kn.length c1) (.slice a2 f.ow.length c2) (.slice a3 f.ln.length c3)) := HX3.out.below hb3
  have HQw3 : Hid (Bx4 w3 (H + 1) (.slice none 0 0) (.slice none 0 0) (.slice none 0 0) (.slice none 0 0)) := HQ3.out.below hb3
  have HPw3 : Hid (Bx4 w3 (H + 1 + 1) (.slice b0 f.lk.length d0) (.slice b1 f.kn.length d1) (.slice b2 f.ow.length d2) (.slice none 0 0)) := HP3.out.below hb3
  have hsw3 : H + 3 ≤ w3.heap.size := Nat.le_trans hs3 hb3.size
  clear ho3 hb3 HB3 HX3 HQ3 HP3 hs3 HO0_2 HO1_2 HO2_2
  obtain ⟨-, x0, x1, x2, x3, -⟩ := HXw3.out
  obtain ⟨-, p0, p1, p2, p3, pf⟩ := HPw3.out
  obtain ⟨-, q0, q1, q2, q3, qf⟩ := HQw3.out
  have HFIN : Hid (OwnF w3 (H + 3) (.slice b0 f.lk.length d0) (.slice b1 f.kn.length d1) (.slice b2 f.ow.length d2) (.slice b3 f.ln.length d3) vs0 vs1 vs2 f) := ⟨HO0_3w.out, HO1_3w.out, HO2_3w.out, HO3.out, HA01.out, HA02.out, HA12.out⟩
  clear HO0_3w HO1_3w HO2_3w HO3
  go_wp2
  refine bodyPost_ret (v := .agg #[.slice b0 f.lk.length d0, .slice b1 f.kn.length d1, .slice b2 f.ow.length d2, .slice b3 f.ln.length d3]) (by simp [results, Try.results9, go_sem, q0, q1, q2, q3]) rfl ⟨_, _, _, _, rfl, ⟨vs0, vs1, vs2, ?_⟩, ?_⟩
  · rw [HH.out]
    exact (((((HFIN.out.setCell (by simp) _).setCell (by simp) _).setCell (by simp) _).setCell (by simp) _).setCell (by simp) _).mono (by omega)
  · rw [HH.out]
    exact ((((HB3w.out.setCell (by simp; omega) _).setCell (by simp) _).setCell (by simp) _).setCell (by simp) _).setCell (by simp) _

set_option maxRecDepth 100000 in
set_option maxHeartbeats 2000000 in
theorem eqFlood_same (W : World) (x y z l x' y' z' l' : Value) (f : FD) (h : ReadsF W x y z l f) (h' : ReadsF W x' y' z' l' f) (hf : FitF f) :
    Calls Try.prog 12 #[.agg #[x, y, z, l], .agg #[x', y', z', l']] W fun e W' => e = .returned (.bool true) ∧ Below W.heap.size W W' := by
  have HR : Hid (∀ W1, Below W.heap.size W W1 → ReadsF W1 x y z l f) := fun W1 hb => h.below hb
  have HR' : Hid (∀ W1, Below W.heap.size W W1 → ReadsF W1 x' y' z' l' f) := fun W1 hb => h'.below hb
  have HF : Hid (FitF f) := hf
  obtain ⟨a0, c0, rfl⟩ := h.lk.shape
  obtain ⟨a1, c1, rfl⟩ := h.kn.shape
  obtain ⟨a2, c2, rfl⟩ := h.ow.shape
  obtain ⟨a3, c3, rfl⟩ := h.ln.shape
  obtain ⟨b0, d0, rfl⟩ := h'.lk.shape
  obtain ⟨b1, d1, rfl⟩ := h'.kn.shape
  obtain ⟨b2, d2, rfl⟩ := h'.ow.shape
  obtain ⟨b3, d3, rfl⟩ := h'.ln.shape
  have HS0 : Hid (Since W.heap.size W ((W.alloc (.cells #[.slice a0 f.lk.length c0, .slice a1 f.kn.length c1, .slice a2 f.ow.length c2, .slice a3 f.ln.length c3] 31)).alloc (.cells #[.slice b0 f.lk.length d0, .slice b1 f.kn.length d1, .slice b2 f.ow.length d2, .slice b3 f.ln.length d3] 31))) := (Since.start W).step (((Below.refl _ W).alloc (Nat.le_refl _) _).alloc (by simp) _)
  have HX0 : Hid (Bx4 ((W.alloc (.cells #[.slice a0 f.lk.length c0, .slice a1 f.kn.length c1, .slice a2 f.ow.length c2, .slice a3 f.ln.length c3] 31)).alloc (.cells #[.slice b0 f.lk.length d0, .slice b1 f.kn.length d1, .slice b2 f.ow.length d2, .slice b3 f.ln.length d3] 31)) W.heap.size (.slice a0 f.lk.length c0) (.slice a1 f.kn.length c1) (.slice a2 f.ow.length c2) (.slice a3 f.ln.length c3)) := (Bx4.new W (.slice a0 f.lk.length c0) (.slice a1 f.kn.length c1) (.slice a2 f.ow.length c2) (.slice a3 f.ln.length c3) 31).below ((Below.refl _ _).alloc (Nat.le_refl _) _)
  have HY0 : Hid (Bx4 ((W.alloc (.cells #[.slice a0 f.lk.length c0, .slice a1 f.kn.length c1, .slice a2 f.ow.length c2, .slice a3 f.ln.length c3] 31)).alloc (.cells #[.slice b0 f.lk.length d0, .slice b1 f.kn.length d1, .slice b2 f.ow.length d2, .slice b3 f.ln.length d3] 31)) (W.heap.size + 1) (.slice b0 f.lk.length d0) (.slice b1 f.kn.length d1) (.slice b2 f.ow.length d2) (.slice b3 f.ln.length d3)) := by
    have := Bx4.new (W.alloc (.cells #[.slice a0 f.lk.length c0, .slice a1 f.kn.length c1, .slice a2 f.ow.length c2, .slice a3 f.ln.length c3] 31)) (.slice b0 f.lk.length d0) (.slice b1 f.kn.length d1) (.slice b2 f.ow.length d2) (.slice b3 f.ln.length d3) 31
    exact (show Bx4 _ _ _ _ _ _ by simpa using this)
  clear h h' hf
  go_enter Try.func12, Try.ntmps12
  go_wp2_with fail
  generalize ((W.alloc (.cells #[.slice a0 f.lk.length c0, .slice a1 f.kn.length c1, .slice a2 f.ow.length c2, .slice a3 f.ln.length c3] 31)).alloc (.cells #[.slice b0 f.lk.length d0, .slice b1 f.kn.length d1, .slice b2 f.ow.length d2, .slice b3 f.ln.length d3] 31)) = w0 at *
  refine (eqSS_same w0 _ _ f.lk (HR.out _ HS0.out.1).lk (HR'.out _ HS0.out.1).lk (by have := HF.out.lk; omega) (in4 HF.out.lki)).mono ?_
  rintro e w1 ⟨rfl, hb1⟩
  have HS1 : Hid (Since W.heap.size W w1) := HS0.out.step hb1
  have HX1 : Hid (Bx4 w1 W.heap.size (.slice a0 f.lk.length c0) (.slice a1 f.kn.length c1) (.slice a2 f.ow.length c2) (.slice a3 f.ln.length c3)) := HX0.out.below hb1
  have HY1 : Hid (Bx4 w1 (W.heap.size + 1) (.slice b0 f.lk.length d0) (.slice b1 f.kn.length d1) (.slice b2 f.ow.length d2) (.slice b3 f.ln.length d3)) := HY0.out.below hb1
  clear hb1 HX0 HY0
  obtain ⟨-, x0, x1, x2, x3, -⟩ := HX1.out
  obtain ⟨-, y0, y1, y2, y3, -⟩ := HY1.out
  go_wp2_with fail
  refine (eqSS_same w1 _ _ f.kn (HR.out _ HS1.out.1).kn (HR'.out _ HS1.out.1).kn (by have := HF.out.kn; omega) (in4 HF.out.kni)).mono ?_
  rintro e w2 ⟨rfl, hb2⟩
  have HS2 : Hid (Since W.heap.size W w2) := HS1.out.step hb2
  have HX2 : Hid (Bx4 w2 W.heap.size (.slice a0 f.lk.length c0) (.slice a1 f.kn.length c1) (.slice a2 f.ow.length c2) (.slice a3 f.ln.length c3)) := HX1.out.below hb2
  have HY2 : Hid (Bx4 w2 (W.heap.size + 1) (.slice b0 f.lk.length d0) (.slice b1 f.kn.length d1) (.slice b2 f.ow.length d2) (.slice b3 f.ln.length d3)) := HY1.out.below hb2
  clear x0 x1 x2 x3 y0 y1 y2 y3
  clear hb2 HX1 HY1
  obtain ⟨-, x0, x1, x2, x3, -⟩ := HX2.out
  obtain ⟨-, y0, y1, y2, y3, -⟩ := HY2.out
  go_wp2_with fail
  refine (eqSS_same w2 _ _ f.ow (HR.out _ HS2.out.1).ow (HR'.out _ HS2.out.1).ow (by have := HF.out.ow; omega) (in4 HF.out.owi)).mono ?_
  rintro e w3 ⟨rfl, hb3⟩
  have HS3 : Hid (Since W.heap.size W w3) := HS2.out.step hb3
  have HX3 : Hid (Bx4 w3 W.heap.size (.slice a0 f.lk.length c0) (.slice a1 f.kn.length c1) (.slice a2 f.ow.length c2) (.slice a3 f.ln.length c3)) := HX2.out.below hb3
  have HY3 : Hid (Bx4 w3 (W.heap.size + 1) (.slice b0 f.lk.length d0) (.slice b1 f.kn.length d1) (.slice b2 f.ow.length d2) (.slice b3 f.ln.length d3)) := HY2.out.below hb3
  clear x0 x1 x2 x3 y0 y1 y2 y3
  clear hb3 HX2 HY2
  obtain ⟨-, x0, x1, x2, x3, -⟩ := HX3.out
  obtain ⟨-, y0, y1, y2, y3, -⟩ := HY3.out
  go_wp2_with fail
  refine (eqLts_same w3 _ _ f.ln (HR.out _ HS3.out.1).ln (HR'.out _ HS3.out.1).ln (by have := HF.out.ln; omega)).mono ?_
  rintro e w4 ⟨rfl, hb4⟩
  have HS4 : Hid (Since W.heap.size W w4) := HS3.out.step hb4
  go_wp2
  go_ret
  exact ⟨rfl, HS4.out.1⟩
end Go.Proofs.Ytkkamigaolejiax
