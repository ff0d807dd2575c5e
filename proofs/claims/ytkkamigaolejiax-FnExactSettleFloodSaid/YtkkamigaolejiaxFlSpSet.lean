/-
  'SettleFlood' of the model.
-/
import Derived.Test.YtkkamigaolejiaxFlSpTakeE
import Derived.Test.YtkkamigaolejiaxFlOwnF
import Derived.Test.YtkkamigaolejiaxFlSettleF
namespace Go.Proofs.Ytkkamigaolejiax
open Go.RowKit
set_option linter.unusedVariables false

theorem fit_rows (zss : List (List Int)) (hl : zss.length ≤ 36) (hr : ∀ j (hj : j < zss.length), zss[j].length ≤ 6) : zss.length ≤ 1048576 ∧ (∀ j (hj : j < zss.length), zss[j].length ≤ 1048576) ∧ ∀ k, k ≤ zss.length → sumL zss k ≤ 1048576 := by
  refine ⟨by omega, fun j hj => by have := hr j hj; omega, fun k hk => ?_⟩
  have hb : ∀ k, k ≤ zss.length → sumL zss k ≤ k * 6 := fun k => by
    induction k with
    | zero => intro _; simp [sumL]
    | succ k ih =>
      intro hk
      rw [sumL_next _ k (by omega)]
      have := ih (by omega)
      have := hr k (by omega)
      omega
  have := hb k hk
  omega
theorem SF.fit {W : World} {B : Nat} {x y z l : Value} {xs ys zs : List Value} {f : FD} {n : Nat} (h : SF W B x y z l xs ys zs f n) (hl : f.ln.length ≤ 40) : FitF f := by
  obtain ⟨l1, l2, l3, l4⟩ := h.lens
  have h6 := h.n6
  have h36 := debts36 n f.lk h6
  have h15 := links15 h.lks (by omega)
  obtain ⟨a1, a2, a3⟩ := fit_rows f.lk (by omega) (fun j hj => by have := links2 h.lks j hj; omega)
  obtain ⟨b1, b2, b3⟩ := fit_rows f.kn (by omega) (fun j hj => by rw [l3 j hj]; exact h6)
  obtain ⟨d1, d2, d3⟩ := fit_rows f.ow (by omega) (fun j hj => by rw [l4 j hj]; exact h6)
  exact ⟨a1, a2, a3, b1, b2, b3, d1, d2, d3, by omega⟩
theorem SF.keep3 {W w w' : World} {B : Nat} {x y z l0 l : Value} {xs ys zs : List Value} {f0 f : FD} {n : Nat} (h0 : SF W B x y z l0 xs ys zs f0 n) (h : SF w B x y z l xs ys zs f n) (hl : ∀ k, l.ownBlock = some k → w'.heap[k]? = w.heap[k]?) (hb : Below W.heap.size w w') : SF w' B x y z l xs ys zs f n := by
  have e : ∀ b, b < W.heap.size → w'.heap[b]? = w.heap[b]? := fun b hb' => hb.block b hb'
  refine ⟨⟨?_, ?_, ?_, ?_, h.own.a01, h.own.a02, h.own.a12⟩, h.num, h.lks, h.n1, h.n6, Nat.le_trans h.low hb.size⟩
  · exact h.own.lk.same (fun k hk => e k (World.ownsRow.lt h0.own.lk.row k hk).2) (fun k hk => e k (h0.own.lk.inLt k hk).2)
  · exact h.own.kn.same (fun k hk => e k (World.ownsRow.lt h0.own.kn.row k hk).2) (fun k hk => e k (h0.own.kn.inLt k hk).2)
  · exact h.own.ow.same (fun k hk => e k (World.ownsRow.lt h0.own.ow.row k hk).2) (fun k hk => e k (h0.own.ow.inLt k hk).2)
  · exact rowSame h.own.ln (fun k hk => hl k hk)
theorem takeE_same (ds : List DbD) (lk kn ow : List (List Int)) (to u : Nat) (seq : Int) (r : Nat) : (⟨(takeE ds ⟨lk, kn, ow, []⟩ to u seq r).lk, (takeE ds ⟨lk, kn, ow, []⟩ to u seq r).kn, (takeE ds ⟨lk, kn, ow, []⟩ to u seq r).ow, []⟩ : FD) = takeE ds ⟨lk, kn, ow, []⟩ to u seq r := by
  unfold takeE
  split <;> rfl

set_option maxRecDepth 100000 in
set_option maxHeartbeats 8000000 in
theorem specSettle_any (W : World) (B : Nat) (x y z l : Value) (xs0 ys0 zs0 : List Value) (f gg : FD) (k : Nat) (h : OwnF W B x y z l xs0 ys0 zs0 f) (hf : FitF f) (hr : SetR f gg k) :
    Calls Try.prog 15 #[.agg #[x, y, z, l]] W fun e W' => ∃ x' y' z' l', e = .returned (.tuple #[.agg #[x', y', z', l'], .int .i64 (k : Int), .bool (goodF f)]) ∧ (∃ xs' ys' zs', OwnF W' W.heap.size x' y' z' l' xs' ys' zs' gg) ∧ Below W.heap.size W W' := by
  obtain ⟨q0, o0, rfl⟩ := h.lk.shape
  obtain ⟨q1, o1, rfl⟩ := h.kn.shape
  obtain ⟨q2, o2, rfl⟩ := h.ow.shape
  obtain ⟨q3, o3, rfl⟩ := h.ln.shape
  have hb0 : Below W.heap.size W ((W.alloc (.cells #[.slice q0 f.lk.length o0, .slice q1 f.kn.length o1, .slice q2 f.ow.length o2, .slice q3 f.ln.length o3] 31)).alloc (.cells #[.slice none 0 0, .slice none 0 0, .slice none 0 0, .slice none 0 0] 31)) := ((Below.refl _ W).alloc (Nat.le_refl _) _).alloc (by simp) _
  have HX0 : Hid (Bx4 ((W.alloc (.cells #[.slice q0 f.lk.length o0, .slice q1 f.kn.length o1, .slice q2 f.ow.length o2, .slice q3 f.ln.length o3] 31)).alloc (.cells #[.slice none 0 0, .slice none 0 0, .slice none 0 0, .slice none 0 0] 31)) W.heap.size (.slice q0 f.lk.length o0) (.slice q1 f.kn.length o1) (.slice q2 f.ow.length o2) (.slice q3 f.ln.length o3)) := (Bx4.new W (.slice q0 f.lk.length o0) (.slice q1 f.kn.length o1) (.slice q2 f.ow.length o2) (.slice q3 f.ln.length o3) 31).below ((Below.refl _ _).alloc (Nat.le_refl _) _)
  have HR0 : Hid (Bx4 ((W.alloc (.cells #[.slice q0 f.lk.length o0, .slice q1 f.kn.length o1, .slice q2 f.ow.length o2, .slice q3 f.ln.length o3] 31)).alloc (.cells #[.slice none 0 0, .slice none 0 0, .slice none 0 0, .slice none 0 0] 31)) (W.heap.size + 1) (.slice none 0 0) (.slice none 0 0) (.slice none 0 0) (.slice none 0 0)) := by
    have := Bx4.new (W.alloc (.cells #[.slice q0 f.lk.length o0, .slice q1 f.kn.length o1, .slice q2 f.ow.length o2, .slice q3 f.ln.length o3] 31)) (.slice none 0 0) (.slice none 0 0) (.slice none 0 0) (.slice none 0 0) 31
    exact (show Bx4 _ _ _ _ _ _ by simpa using this)
  have HB0 : Hid (Below W.heap.size W ((W.alloc (.cells #[.slice q0 f.lk.length o0, .slice q1 f.kn.length o1, .slice q2 f.ow.length o2, .slice q3 f.ln.length o3] 31)).alloc (.cells #[.slice none 0 0, .slice none 0 0, .slice none 0 0, .slice none 0 0] 31))) := hb0
  have hz0 : W.heap.size + 2 ≤ (((W.alloc (.cells #[.slice q0 f.lk.length o0, .slice q1 f.kn.length o1, .slice q2 f.ow.length o2, .slice q3 f.ln.length o3] 31)).alloc (.cells #[.slice none 0 0, .slice none 0 0, .slice none 0 0, .slice none 0 0] 31))).heap.size := by simp
  have CG : Hid (Calls Try.prog 23 #[.agg #[.slice q0 f.lk.length o0, .slice q1 f.kn.length o1, .slice q2 f.ow.length o2, .slice q3 f.ln.length o3]] ((W.alloc (.cells #[.slice q0 f.lk.length o0, .slice q1 f.kn.length o1, .slice q2 f.ow.length o2, .slice q3 f.ln.length o3] 31)).alloc (.cells #[.slice none 0 0, .slice none 0 0, .slice none 0 0, .slice none 0 0] 31)) fun e W' => e = .returned (.bool (goodF f)) ∧ Below (((W.alloc (.cells #[.slice q0 f.lk.length o0, .slice q1 f.kn.length o1, .slice q2 f.ow.length o2, .slice q3 f.ln.length o3] 31)).alloc (.cells #[.slice none 0 0, .slice none 0 0, .slice none 0 0, .slice none 0 0] 31))).heap.size ((W.alloc (.cells #[.slice q0 f.lk.length o0, .slice q1 f.kn.length o1, .slice q2 f.ow.length o2, .slice q3 f.ln.length o3] 31)).alloc (.cells #[.slice none 0 0, .slice none 0 0, .slice none 0 0, .slice none 0 0] 31)) W') := specGoodF_any _ _ _ _ _ f (h.reads.below hb0) hf
  have CC : Hid (∀ w', Below W.heap.size W w' → Calls Try.prog 25 #[.agg #[.slice q0 f.lk.length o0, .slice q1 f.kn.length o1, .slice q2 f.ow.length o2, .slice q3 f.ln.length o3]] w' fun e W' => ∃ x' y' z' l', e = .returned (.agg #[x', y', z', l']) ∧ (∃ xs' ys' zs', OwnF W' w'.heap.size x' y' z' l' xs' ys' zs' f) ∧ Below w'.heap.size w' W') := fun w' hb => l6Own_any w' B _ _ _ _ xs0 ys0 zs0 f (h.below hb) hf
  have HRR : Hid (SetR f gg k) := hr
  clear h hf hr hb0
  cases hg : goodF f with
  | false =>
    rw [hg] at CG
    have HG : Hid (k = 0 ∧ gg = noF) := by
      rcases HRR.out with ⟨e, -⟩ | ⟨-, e⟩
      · rw [hg] at e; cases e
      · exact e
    clear hg HRR CC
    go_enter Try.func15, Try.ntmps15
    generalize hw0 : ((W.alloc (.cells #[.slice q0 f.lk.length o0, .slice q1 f.kn.length o1, .slice q2 f.ow.length o2, .slice q3 f.ln.length o3] 31)).alloc (.cells #[.slice none 0 0, .slice none 0 0, .slice none 0 0, .slice none 0 0] 31)) = w0 at *
    obtain ⟨-, x0, x1, x2, x3, -⟩ := HX0.out
    go_wp2_with fail
    refine CG.out.mono ?_
    clear hw0 x0 x1 x2 x3
    rintro e w1 ⟨rfl, hb1⟩
    have HR1 : Hid (Bx4 w1 (W.heap.size + 1) (.slice none 0 0) (.slice none 0 0) (.slice none 0 0) (.slice none 0 0)) := HR0.out.below hb1
    have HB1 : Hid (Below W.heap.size W w1) := HB0.out.trans (hb1.mono (by omega))
    clear hb1 CG HR0 HX0 HB0
    obtain ⟨-, y0, y1, y2, y3, yf⟩ := HR1.out
    have HRF : Hid (Bx4 ((((w1.setCell ⟨W.heap.size + 1, 0, none⟩ (.slice none 0 0)).setCell ⟨W.heap.size + 1, 1, none⟩ (.slice none 0 0)).setCell ⟨W.heap.size + 1, 2, none⟩ (.slice none 0 0)).setCell ⟨W.heap.size + 1, 3, none⟩ (.slice none 0 0)) (W.heap.size + 1) (.slice none 0 0) (.slice none 0 0) (.slice none 0 0) (.slice none 0 0)) := (((HR1.out.put0 _).put1 _).put2 _).put3 _
    have HBF : Hid (Below W.heap.size W ((((w1.setCell ⟨W.heap.size + 1, 0, none⟩ (.slice none 0 0)).setCell ⟨W.heap.size + 1, 1, none⟩ (.slice none 0 0)).setCell ⟨W.heap.size + 1, 2, none⟩ (.slice none 0 0)).setCell ⟨W.heap.size + 1, 3, none⟩ (.slice none 0 0))) := (((HB1.out.setCell (by simp) _).setCell (by simp) _).setCell (by simp) _).setCell (by simp) _
    go_wp2
    clear y0 y1 y2 y3 yf
    obtain ⟨-, y0, y1, y2, y3, yf⟩ := HRF.out
    refine bodyPost_ret (v := .tuple #[.agg #[.slice none 0 0, .slice none 0 0, .slice none 0 0, .slice none 0 0], .int .i64 0, .bool false]) (by simp [results, Try.results15, go_sem, y0, y1, y2, y3]) rfl ⟨_, _, _, _, by rw [HG.out.1]; rfl, ⟨[], [], [], by rw [HG.out.2]; exact OwnF.nil _ _⟩, HBF.out⟩
  | true =>
    rw [hg] at CG
    have HG : Hid (Settles (debtsL f.kn.length f.lk) f k gg) := by
      rcases HRR.out with ⟨-, e⟩ | ⟨e, -⟩
      · exact e
      · rw [hg] at e; cases e
    have hN := goodF_num hg
    have hd36 := debts36 f.kn.length f.lk hN.2.2.2
    have hfb := (far_bound hN.1 hN.2.2.2 hd36).2
    obtain ⟨hkb, -, -⟩ := settles_far hN.2.2.2 hd36 hN.2.1 hN.1 HG.out
    have hk63 : k ≤ 2200000 := by omega
    have HN : Hid (Num (debtsL f.kn.length f.lk) f.kn.length (debtsL f.kn.length f.lk).length f ∧ linksB (f.kn.length : Int) f.lk = true ∧ 1 ≤ f.kn.length ∧ f.kn.length ≤ 6) := hN
    have HDA : Hid (∀ i (hi : i < (debtsL f.kn.length f.lk).length), (((debtsL f.kn.length f.lk)[i].p = (dp (debtsL f.kn.length f.lk) i : Int) ∧ (debtsL f.kn.length f.lk)[i].q = (dq (debtsL f.kn.length f.lk) i : Int)) ∧ (dp (debtsL f.kn.length f.lk) i < f.kn.length ∧ dq (debtsL f.kn.length f.lk) i < f.kn.length)) ∧ (ixD (debtsL f.kn.length f.lk) (dq (debtsL f.kn.length f.lk) i : Int) (dp (debtsL f.kn.length f.lk) i : Int) = (rvD (debtsL f.kn.length f.lk) i : Int) ∧ rvD (debtsL f.kn.length f.lk) i < (debtsL f.kn.length f.lk).length ∧ dp (debtsL f.kn.length f.lk) (rvD (debtsL f.kn.length f.lk) i) = dq (debtsL f.kn.length f.lk) i ∧ dq (debtsL f.kn.length f.lk) (rvD (debtsL f.kn.length f.lk) i) = dp (debtsL f.kn.length f.lk) i) ∧ ixD (debtsL f.kn.length f.lk) (dp (debtsL f.kn.length f.lk) i : Int) (dq (debtsL f.kn.length f.lk) i : Int) = (i : Int)) := fun i hi => by
      obtain ⟨e1, e2, e3, e4, -⟩ := debt_at hN.2.1 i hi
      obtain ⟨r0, r1, r2, r3, -⟩ := rvD_ok hN.2.1 i hi
      exact ⟨⟨⟨e1, e2⟩, ⟨e3, e4⟩⟩, ⟨r0, r1, r2, r3⟩, ixD_self hN.2.1 i hi⟩
    have HLN : Hid (f.ln.length ≤ 40) := (goodF_rows hg).2.2.1
    clear hg HRR hN hd36 hfb hkb
    go_enter Try.func15, Try.ntmps15
    generalize hw0 : ((W.alloc (.cells #[.slice q0 f.lk.length o0, .slice q1 f.kn.length o1, .slice q2 f.ow.length o2, .slice q3 f.ln.length o3] 31)).alloc (.cells #[.slice none 0 0, .slice none 0 0, .slice none 0 0, .slice none 0 0] 31)) = w0 at *
    obtain ⟨-, x0, x1, x2, x3, -⟩ := HX0.out
    go_wp2_with fail
    refine CG.out.mono ?_
    clear hw0 x0 x1 x2 x3
    rintro e w1 ⟨rfl, hb1⟩
    have HX1 : Hid (Bx4 w1 W.heap.size (.slice q0 f.lk.length o0) (.slice q1 f.kn.length o1) (.slice q2 f.ow.length o2) (.slice q3 f.ln.length o3)) := HX0.out.below hb1
    have HR1 : Hid (Bx4 w1 (W.heap.size + 1) (.slice none 0 0) (.slice none 0 0) (.slice none 0 0) (.slice none 0 0)) := HR0.out.below hb1
    have HB1 : Hid (Below W.heap.size W w1) := HB0.out.trans (hb1.mono (by omega))
    have hz1 : W.heap.size + 2 ≤ w1.heap.size := Nat.le_trans hz0 hb1.size
    clear hb1 CG HR0 HX0 HB0 hz0
    obtain ⟨-, x0, x1, x2, x3, -⟩ := HX1.out
    go_wp2_with fail
    refine (CC.out _ HB1.out).mono ?_
    clear x0 x1 x2 x3
    rintro e w2 ⟨x2, y2, z2, l2, rfl, ⟨xs, ys, zs, ho2⟩, hb2⟩
    obtain ⟨n, hn⟩ : ∃ n, n = f.kn.length := ⟨_, rfl⟩
    have hN := HN.out
    have hst := HG.out
    have hda := HDA.out
    rw [← hn] at hN hst hda
    have hsf : SF w2 w1.heap.size x2 y2 z2 l2 xs ys zs f n := ⟨ho2, hN.1, hN.2.1, hN.2.2.1, hN.2.2.2, hb2.size⟩
    have hn6 : n ≤ 6 := hN.2.2.2
    have HLKS : Hid (linksB (n : Int) f.lk = true) := hN.2.1
    obtain ⟨hl1, hl2, -, -⟩ := hsf.lens
    obtain ⟨a0, c0, hx⟩ := hsf.own.lk.shape
    obtain ⟨a1, c1, hy⟩ := hsf.own.kn.shape
    obtain ⟨a2, c2, hz⟩ := hsf.own.ow.shape
    obtain ⟨a3, c3, hl⟩ := hsf.own.ln.shape
    rw [hl1] at hy
    rw [hl2] at hz
    subst hx hy hz hl
    obtain ⟨lk, hlk⟩ : ∃ lk, lk = f.lk := ⟨_, rfl⟩
    rw [← hlk] at hda hst
    obtain ⟨ds, hds⟩ : ∃ ds, ds = debtsL n lk := ⟨_, rfl⟩
    rw [← hds] at hda hst
    have HDS : Hid (debtsL n lk = ds) := hds.symm
    have HLKE : Hid (f.lk = lk) := hlk.symm
    have hml : (debtsL n f.lk).length = ds.length := by rw [← hlk, hds]
    obtain ⟨m, hm⟩ : ∃ m, m = ds.length := ⟨_, rfl⟩
    rw [hml, ← hm] at hsf ⊢
    obtain ⟨k0, hk0⟩ : ∃ k0, k0 = f.lk.length := ⟨_, rfl⟩
    rw [← hk0] at hsf ⊢
    obtain ⟨k3, hk3⟩ : ∃ k3, k3 = f.ln.length := ⟨_, rfl⟩
    rw [← hk3] at hsf ⊢
    have HM : Hid (ds.length = m) := hm.symm
    have HW : Hid (SF w2 w1.heap.size (.slice a0 k0 c0) (.slice a1 n c1) (.slice a2 m c2) (.slice a3 k3 c3) xs ys zs f n) := hsf
    have HST : Hid (Settles ds f k gg) := hst
    have HDB : Hid (∀ i (hi : i < ds.length), ((ds[i].p = (dp ds i : Int) ∧ ds[i].q = (dq ds i : Int)) ∧ (dp ds i < n ∧ dq ds i < n)) ∧ (ixD ds (dq ds i : Int) (dp ds i : Int) = (rvD ds i : Int) ∧ rvD ds i < ds.length ∧ dp ds (rvD ds i) = dq ds i ∧ dq ds (rvD ds i) = dp ds i) ∧ ixD ds (dp ds i : Int) (dq ds i : Int) = (i : Int)) := hda
    have hbA : Below w2.heap.size w2 (w2.alloc (.cells #[.slice a0 k0 c0, .slice a1 n c1, .slice a2 m c2, .slice a3 k3 c3] 31)) := (Below.refl _ _).alloc (Nat.le_refl _) _
    have HR2 : Hid (Bx4 w2 (W.heap.size + 1) (.slice none 0 0) (.slice none 0 0) (.slice none 0 0) (.slice none 0 0)) := HR1.out.below hb2
    have HB2 : Hid (Below W.heap.size W w2) := HB1.out.trans (hb2.mono (by omega))
    have hz2 : w1.heap.size ≤ w2.heap.size := hb2.size
    have HLO : Hid (∀ b, InKO ys zs b → w1.heap.size ≤ b ∧ b < w2.heap.size) := fun b hb => hb.elim (fun e => ho2.kn.inLt b e) (fun e => ho2.ow.inLt b e)
    have HI0 : Hid (SF (w2.alloc (.cells #[.slice a0 k0 c0, .slice a1 n c1, .slice a2 m c2, .slice a3 k3 c3] 31)) w1.heap.size (.slice a0 k0 c0) (.slice a1 n c1) (.slice a2 m c2) (.slice a3 k3 c3) xs ys zs f n ∧ Bx4 (w2.alloc (.cells #[.slice a0 k0 c0, .slice a1 n c1, .slice a2 m c2, .slice a3 k3 c3] 31)) w2.heap.size (.slice a0 k0 c0) (.slice a1 n c1) (.slice a2 m c2) (.slice a3 k3 c3) ∧ Bx4 (w2.alloc (.cells #[.slice a0 k0 c0, .slice a1 n c1, .slice a2 m c2, .slice a3 k3 c3] 31)) (W.heap.size + 1) (.slice none 0 0) (.slice none 0 0) (.slice none 0 0) (.slice none 0 0) ∧ Turned (InKO ys zs) w2 (w2.alloc (.cells #[.slice a0 k0 c0, .slice a1 n c1, .slice a2 m c2, .slice a3 k3 c3] 31))) := ⟨hsf.below hbA, Bx4.new _ _ _ _ _ _, HR2.out.below hbA, Turned.ofBelow hbA⟩
    have hzA : w2.heap.size + 1 ≤ ((w2.alloc (.cells #[.slice a0 k0 c0, .slice a1 n c1, .slice a2 m c2, .slice a3 k3 c3] 31))).heap.size := by simp
    clear ho2 hb2 HR1 HX1 HB1 CC hN hst hda hsf hl1 hl2 hlk hds hm hk0 hk3 hml hbA HR2 HN HG HDA hn
    generalize hwA : (w2.alloc (.cells #[.slice a0 k0 c0, .slice a1 n c1, .slice a2 m c2, .slice a3 k3 c3] 31)) = wA at *
    obtain ⟨-, x0, x1, x2, x3, xf⟩ := HI0.out.2.1
    have CF : ∀ (w' : World) (fc : FD) (lc : Value), SF w' w1.heap.size (.slice a0 k0 c0) (.slice a1 n c1) (.slice a2 m c2) lc xs ys zs fc n → ∀ ri ru : Int, ((∃ i u : Nat, FirstO fc.ow i u ∧ ri = (i : Int) ∧ ru = (u : Int)) ∨ (NoneO fc.ow ∧ ri = -1 ∧ ru = -1)) → Calls Try.prog 37 #[.agg #[.slice a0 k0 c0, .slice a1 n c1, .slice a2 m c2, lc]] w' fun e W' => e = .returned (.tuple #[.int .i64 ri, .int .i64 ru]) ∧ Below w'.heap.size w' W' := fun w' fc lc h' ri ru hres => by
      obtain ⟨l1, l2, l3, l4⟩ := h'.lens
      refine l6First_any w' _ _ _ _ fc h'.own.reads ?_ ?_ ri ru hres
      · rw [l2]; exact debts36 n fc.lk h'.n6
      · exact fun j hj => by rw [l4 j hj]; exact h'.n6
    have HCF : Hid (∀ (w' : World) (fc : FD) (lc : Value), SF w' w1.heap.size (.slice a0 k0 c0) (.slice a1 n c1) (.slice a2 m c2) lc xs ys zs fc n → ∀ ri ru : Int, ((∃ i u : Nat, FirstO fc.ow i u ∧ ri = (i : Int) ∧ ru = (u : Int)) ∨ (NoneO fc.ow ∧ ri = -1 ∧ ru = -1)) → Calls Try.prog 37 #[.agg #[.slice a0 k0 c0, .slice a1 n c1, .slice a2 m c2, lc]] w' fun e W' => e = .returned (.tuple #[.int .i64 ri, .int .i64 ru]) ∧ Below w'.heap.size w' W') := CF
    clear CF
    obtain ⟨ri, ru, hfs⟩ : ∃ ri ru : Int, ((∃ i u : Nat, FirstO f.ow i u ∧ ri = (i : Int) ∧ ru = (u : Int)) ∨ (NoneO f.ow ∧ ri = -1 ∧ ru = -1)) := by
      rcases first_or f.ow with hN | ⟨i, u, hF⟩
      · exact ⟨-1, -1, .inr ⟨hN, rfl, rfl⟩⟩
      · exact ⟨i, u, .inl ⟨i, u, hF, rfl, rfl⟩⟩
    have HFS : Hid (((∃ i u : Nat, FirstO f.ow i u ∧ ri = (i : Int) ∧ ru = (u : Int)) ∨ (NoneO f.ow ∧ ri = -1 ∧ ru = -1))) := hfs
    have C1 : Hid (Calls Try.prog 37 #[.agg #[.slice a0 k0 c0, .slice a1 n c1, .slice a2 m c2, .slice a3 k3 c3]] wA fun e W' => e = .returned (.tuple #[.int .i64 ri, .int .i64 ru]) ∧ Below wA.heap.size wA W') := HCF.out wA f _ HI0.out.1 ri ru hfs
    clear hfs
    go_wp2_with fail
    refine C1.out.mono ?_
    clear hwA x0 x1 x2 x3 xf
    rintro e w3 ⟨rfl, hb3⟩
    have HI : Hid (Settles ds f k gg ∧ f.lk = lk ∧ ((∃ i u : Nat, FirstO f.ow i u ∧ ri = (i : Int) ∧ ru = (u : Int)) ∨ (NoneO f.ow ∧ ri = -1 ∧ ru = -1)) ∧ f.ln.length ≤ 40 ∧ SF w3 w1.heap.size (.slice a0 k0 c0) (.slice a1 n c1) (.slice a2 m c2) (.slice a3 k3 c3) xs ys zs f n ∧ Bx4 w3 w2.heap.size (.slice a0 k0 c0) (.slice a1 n c1) (.slice a2 m c2) (.slice a3 k3 c3) ∧ Bx4 w3 (W.heap.size + 1) (.slice none 0 0) (.slice none 0 0) (.slice none 0 0) (.slice none 0 0) ∧ Turned (InKO ys zs) w2 w3) := ⟨HST.out, HLKE.out, HFS.out, HLN.out, HI0.out.1.below hb3, HI0.out.2.1.below hb3, HI0.out.2.2.1.below hb3, HI0.out.2.2.2.below0 hb3⟩
    clear hb3 HI0 C1 HST HLKE HFS HLN hzA
    go_wp2
    go_loopw [6, 7, 8] (fun t si su wr => ∃ (j mm : Nat) (fc : FD) (al : Option Addr) (kl cl : Nat) (ri ru : Int), t = .int .i64 j ∧ si = .int .i64 ri ∧ su = .int .i64 ru ∧ j + mm = k ∧ Hid (Settles ds fc mm gg ∧ fc.lk = lk ∧ ((∃ i u : Nat, FirstO fc.ow i u ∧ ri = (i : Int) ∧ ru = (u : Int)) ∨ (NoneO fc.ow ∧ ri = -1 ∧ ru = -1)) ∧ fc.ln.length ≤ 40 ∧ SF wr w1.heap.size (.slice a0 k0 c0) (.slice a1 n c1) (.slice a2 m c2) (.slice al kl cl) xs ys zs fc n ∧ Bx4 wr w2.heap.size (.slice a0 k0 c0) (.slice a1 n c1) (.slice a2 m c2) (.slice al kl cl) ∧ Bx4 wr (W.heap.size + 1) (.slice none 0 0) (.slice none 0 0) (.slice none 0 0) (.slice none 0 0) ∧ Turned (InKO ys zs) w2 wr)) (fun t _ _ _ => k - (intOf t).toNat)
    case atStart => exact ⟨0, k, f, a3, k3, c3, ri, ru, rfl, rfl, rfl, by omega, HI⟩
    case round =>
      obtain ⟨j, mm, fc, al, kl, cl, ri', ru', rfl, rfl, rfl, hjm, HK⟩ := hrel
      clear HI
      have hjk : (j : Int) ≤ 2200000 := by omega
      obtain ⟨-, x0, x1, x2, x3, xf⟩ := HK.out.2.2.2.2.2.1
      rcases HK.out.2.2.1 with ⟨i, u, hF, hri, hru⟩ | ⟨hNo, hri, hru⟩
      · have hlkc : fc.lk = lk := HK.out.2.1
        have hdsc : debtsL n fc.lk = ds := by rw [hlkc]; exact HDS.out
        have hsf := HK.out.2.2.2.2.1
        obtain ⟨hfi, hfu, hf1⟩ := hsf.num.firstO hF
        rw [hdsc] at hfi
        obtain ⟨m1, hmm, hst⟩ := HK.out.1.more hF
        obtain ⟨⟨⟨ep, eq⟩, ⟨hpn, hqn⟩⟩, ⟨hrv, hrm, hrp, hrq⟩, hself⟩ := HDB.out i hfi
        have hsq0 := hsf.num.kn.lo _ u hpn hfu
        have hsq1 := hsf.num.kn.up _ u hpn hfu
        have CR : Hid (Calls Try.prog 38 #[.int .i64 (n : Int), .slice a0 k0 c0] wr fun e W' => ∃ v' vs, e = .returned v' ∧ OwnSS W' wr.heap.size v' vs (ds.map pqL) ∧ Below wr.heap.size wr W') := by
          have h9 := l6Rows_any wr _ fc.lk n hsf.own.lk.reads (links2 hsf.lks) (links15 hsf.lks (by omega)) hn6
          rw [rowsL_debts hsf.lks, hdsc] at h9
          exact h9
        have HRW : Hid (∀ (w' : World) (ar : Option Addr) (cr : Nat) (vr : List Value), OwnSS w' wr.heap.size (.slice ar m cr) vr (ds.map pqL) → ∃ gr g2 cg, ar = some ⟨gr, 0, none⟩ ∧ w'.cell? ⟨gr, i, none⟩ = some (.slice (some ⟨g2, 0, none⟩) 2 cg) ∧ w'.cell? ⟨g2, 0, none⟩ = some (.int .i64 (dp ds i : Int)) ∧ w'.cell? ⟨g2, 1, none⟩ = some (.int .i64 (dq ds i : Int)) ∧ wr.heap.size ≤ g2 ∧ g2 < w'.heap.size) := fun w' ar cr vr h' => by
          have hkv : i < vr.length := by rw [h'.len, List.length_map]; exact hfi
          have hin := h'.inner i hkv
          have e : (ds.map pqL)[i]'(by simpa using hfi) = [ds[i].p, ds[i].q] := by rw [List.getElem_map]; rfl
          rw [e] at hin
          obtain ⟨g2, c2, hv2, t0, t1⟩ := own_two hin
          have hlt := h'.inLt g2 ⟨i, hkv, by rw [hv2]; rfl⟩
          rcases h'.row.2 with ⟨-, hn0⟩ | ⟨g, cap, cur, hv, -⟩
          · omega
          · have hr9 := h'.row
            rw [hv] at hr9
            simp only [Value.slice.injEq] at hv
            exact ⟨g, g2, c2, hv.1, by rw [World.ownsRow.cellAt hr9 i (by omega), List.getElem?_eq_getElem hkv, hv2], by rw [t0, ep], by rw [t1, eq], hlt⟩
        have HSTEP : Hid (Settles ds (stepS ds fc i u (rvD ds i)) m1 gg ∧ (stepS ds fc i u (rvD ds i)).lk = lk ∧ mm = m1 + 1) := ⟨hst, by rw [stepS_lk]; exact hlkc, hmm⟩
        have HZS : Hid (atR fc.kn (dp ds i) u = 0 → stepS ds fc i u (rvD ds i) = ⟨fc.lk, fc.kn, setR fc.ow i u 0, fc.ln⟩) := fun e => by unfold stepS; rw [if_pos e]
        have HNS : Hid (atR fc.kn (dp ds i) u ≠ 0 → stepS ds fc i u (rvD ds i) = takeA (takeE ds ⟨fc.lk, fc.kn, fc.ow, []⟩ (dq ds i) u (atR fc.kn (dp ds i) u) (rvD ds i)) (dp ds i) u (atR fc.kn (dp ds i) u) i) := fun e => by unfold stepS; rw [if_neg e]
        have HFX : Hid (∀ F : FD, ∃ a b : Int, (∃ i u : Nat, FirstO F.ow i u ∧ a = (i : Int) ∧ b = (u : Int)) ∨ (NoneO F.ow ∧ a = -1 ∧ b = -1)) := fun F => by
          rcases first_or F.ow with hN | ⟨i, u, hF⟩
          · exact ⟨-1, -1, .inr ⟨hN, rfl, rfl⟩⟩
          · exact ⟨i, u, .inl ⟨i, u, hF, rfl, rfl⟩⟩
        have CTE : Hid (∀ w', SF w' w1.heap.size (.slice a0 k0 c0) (.slice a1 n c1) (.slice a2 m c2) (.slice none 0 0) xs ys zs ⟨fc.lk, fc.kn, fc.ow, []⟩ n → Calls Try.prog 39 #[.agg #[.slice a0 k0 c0, .slice a1 n c1, .slice a2 m c2, .slice none 0 0], .agg #[.int .i64 (dq ds i : Int), .int .i64 (dp ds i : Int), .int .i64 (u : Int), .int .i64 (atR fc.kn (dp ds i) u), .bool false]] w' fun e W' => ∃ l', e = .returned (.agg #[.slice a0 k0 c0, .slice a1 n c1, .slice a2 m c2, l']) ∧ SF W' w1.heap.size (.slice a0 k0 c0) (.slice a1 n c1) (.slice a2 m c2) (.slice none 0 0) xs ys zs (takeE ds ⟨fc.lk, fc.kn, fc.ow, []⟩ (dq ds i) u (atR fc.kn (dp ds i) u) (rvD ds i)) n ∧ OwnLt W' w'.heap.size l' [⟨(dp ds i : Int), (dq ds i : Int), (u : Int), atR fc.kn (dp ds i) u, true⟩] ∧ Turned (InKO ys zs) w' W') := fun w' h' => by
          have h9 := l6TakeE_any w' w1.heap.size _ _ _ xs ys zs ⟨fc.lk, fc.kn, fc.ow, []⟩ n h' (dq ds i) (dp ds i) u (rvD ds i) (atR fc.kn (dp ds i) u) hqn hfu (by rw [hdsc]; exact hrv) (by rw [hdsc]; exact hrm) (by rw [hdsc]; exact hrp) (by rw [hdsc]; exact hrq) hsq0 hsq1
          rw [hdsc] at h9
          exact h9
        have CTA : Hid (∀ w' lc, SF w' w1.heap.size (.slice a0 k0 c0) (.slice a1 n c1) (.slice a2 m c2) lc xs ys zs (takeE ds ⟨fc.lk, fc.kn, fc.ow, []⟩ (dq ds i) u (atR fc.kn (dp ds i) u) (rvD ds i)) n → Calls Try.prog 39 #[.agg #[.slice a0 k0 c0, .slice a1 n c1, .slice a2 m c2, lc], .agg #[.int .i64 (dp ds i : Int), .int .i64 (dq ds i : Int), .int .i64 (u : Int), .int .i64 (atR fc.kn (dp ds i) u), .bool true]] w' fun e W' => e = .returned (.agg #[.slice a0 k0 c0, .slice a1 n c1, .slice a2 m c2, lc]) ∧ SF W' w1.heap.size (.slice a0 k0 c0) (.slice a1 n c1) (.slice a2 m c2) lc xs ys zs (takeA (takeE ds ⟨fc.lk, fc.kn, fc.ow, []⟩ (dq ds i) u (atR fc.kn (dp ds i) u) (rvD ds i)) (dp ds i) u (atR fc.kn (dp ds i) u) i) n ∧ Turned (InKO ys zs) w' W') := fun w' lc h' => by
          have e7 : debtsL n ((takeE ds ⟨fc.lk, fc.kn, fc.ow, []⟩ (dq ds i) u (atR fc.kn (dp ds i) u) (rvD ds i))).lk = ds := by rw [takeE_lk]; exact hdsc
          exact l6TakeA_any w' w1.heap.size _ _ _ _ xs ys zs (takeE ds ⟨fc.lk, fc.kn, fc.ow, []⟩ (dq ds i) u (atR fc.kn (dp ds i) u) (rvD ds i)) n h' (dp ds i) (dq ds i) u i (atR fc.kn (dp ds i) u) hpn hfu (by rw [e7]; exact hself) (by rw [e7]; exact hfi)
        have HF7 : Hid ((⟨((takeE ds ⟨fc.lk, fc.kn, fc.ow, []⟩ (dq ds i) u (atR fc.kn (dp ds i) u) (rvD ds i))).lk, ((takeE ds ⟨fc.lk, fc.kn, fc.ow, []⟩ (dq ds i) u (atR fc.kn (dp ds i) u) (rvD ds i))).kn, ((takeE ds ⟨fc.lk, fc.kn, fc.ow, []⟩ (dq ds i) u (atR fc.kn (dp ds i) u) (rvD ds i))).ow, []⟩ : FD) = (takeE ds ⟨fc.lk, fc.kn, fc.ow, []⟩ (dq ds i) u (atR fc.kn (dp ds i) u) (rvD ds i))) := takeE_same _ _ _ _ _ _ _ _
        have CK : Hid (∀ w', SF w' w1.heap.size (.slice a0 k0 c0) (.slice a1 n c1) (.slice a2 m c2) (.slice al kl cl) xs ys zs fc n → ∃ g1 gi ci, a1 = some ⟨g1, 0, none⟩ ∧ w'.cell? ⟨g1, dp ds i, none⟩ = some (.slice (some ⟨gi, 0, none⟩) n ci) ∧ w'.cell? ⟨gi, u, none⟩ = some (.int .i64 (atR fc.kn (dp ds i) u))) := fun w' h' => h'.knCell hpn hfu
        have CO : Hid (∀ w', SF w' w1.heap.size (.slice a0 k0 c0) (.slice a1 n c1) (.slice a2 m c2) (.slice al kl cl) xs ys zs fc n → ∃ g3 gj cj, a2 = some ⟨g3, 0, none⟩ ∧ w'.cell? ⟨g3, i, none⟩ = some (.slice (some ⟨gj, 0, none⟩) n cj) ∧ (∃ o, w'.cell? ⟨gj, u, none⟩ = some (.int .i64 o)) ∧ w'.frozen? ⟨gj, u, none⟩ = false ∧ InSS zs gj ∧ ∀ v : Int, 0 ≤ v → v ≤ 1 → SF (w'.setCell ⟨gj, u, none⟩ (.int .i64 v)) w1.heap.size (.slice a0 k0 c0) (.slice a1 n c1) (.slice a2 m c2) (.slice al kl cl) xs ys zs ⟨fc.lk, fc.kn, setR fc.ow i u v, fc.ln⟩ n) := fun w' h' => h'.owCell (by rw [hdsc]; exact hfi) hfu
        have him : (i : Int) < (m : Int) := by have := HM.out; omega
        have hun : (u : Int) < (n : Int) := by omega
        have hpnI : (dp ds i : Int) < (n : Int) := by omega
        have hri0 : 0 ≤ ri' := by omega
        have HKS : Hid (fc.ln.length ≤ 40 ∧ SF wr w1.heap.size (.slice a0 k0 c0) (.slice a1 n c1) (.slice a2 m c2) (.slice al kl cl) xs ys zs fc n ∧ Bx4 wr w2.heap.size (.slice a0 k0 c0) (.slice a1 n c1) (.slice a2 m c2) (.slice al kl cl) ∧ Bx4 wr (W.heap.size + 1) (.slice none 0 0) (.slice none 0 0) (.slice none 0 0) (.slice none 0 0) ∧ Turned (InKO ys zs) w2 wr) := HK.out.2.2.2
        clear hF hst hmm hfi hfu hf1 hrv hrm hrp hrq hself hsq0 hsq1 ep eq hlkc hdsc hpn hqn hsf HK
        generalize hgn : stepS ds fc i u (rvD ds i) = fn at *
        clear hgn
        generalize hf7 : (takeE ds ⟨fc.lk, fc.kn, fc.ow, []⟩ (dq ds i) u (atR fc.kn (dp ds i) u) (rvD ds i)) = f7 at *
        clear hf7
        generalize rvD ds i = rv at *
        generalize dp ds i = p at *
        generalize dq ds i = q at *
        generalize hsq : atR fc.kn p u = sq at *
        clear hsq
        subst hri hru
        go_wp2_with fail
        refine CR.out.mono ?_
        rintro e w4 ⟨v4, vr, rfl, ho4, hb4⟩
        obtain ⟨ar, cr, hv4⟩ := ho4.shape
        rw [List.length_map, HM.out] at hv4
        subst hv4
        obtain ⟨gr, g2, cg, har, s0, s1, s2, hg2a, hg2b⟩ := HRW.out w4 ar cr vr ho4
        subst har
        have HQ4 : Hid (Bx4 w4 w2.heap.size (.slice a0 k0 c0) (.slice a1 n c1) (.slice a2 m c2) (.slice al kl cl)) := HKS.out.2.2.1.below hb4
        have HR4 : Hid (Bx4 w4 (W.heap.size + 1) (.slice none 0 0) (.slice none 0 0) (.slice none 0 0) (.slice none 0 0)) := HKS.out.2.2.2.1.below hb4
        have HS4 : Hid (SF w4 w1.heap.size (.slice a0 k0 c0) (.slice a1 n c1) (.slice a2 m c2) (.slice al kl cl) xs ys zs fc n ∧ Turned (InKO ys zs) w2 w4) := ⟨HKS.out.2.1.below hb4, HKS.out.2.2.2.2.below0 hb4⟩
        have hwr : w2.heap.size < wr.heap.size := HKS.out.2.2.1.lt
        have HLN4 : Hid (fc.ln.length ≤ 40) := HKS.out.1
        clear ho4 hb4 CR HRW HKS x0 x1 x2 x3 xf
        obtain ⟨-, x0, x1, x2, x3, xf⟩ := HQ4.out
        obtain ⟨g1, gi, ci, hg1, r1, r2⟩ := CK.out w4 HS4.out.1
        subst hg1
        go_wp2
        go_quiet (fail)
        have HQ5 : Hid (Bx4 (w4.drewN nq) w2.heap.size (.slice a0 k0 c0) (.slice (some ⟨g1, 0, none⟩) n c1) (.slice a2 m c2) (.slice al kl cl)) := HQ4.out.below (below_drewN (Below.refl _ _) nq)
        have HR5 : Hid (Bx4 (w4.drewN nq) (W.heap.size + 1) (.slice none 0 0) (.slice none 0 0) (.slice none 0 0) (.slice none 0 0)) := HR4.out.below (below_drewN (Below.refl _ _) nq)
        have HS5 : Hid (SF (w4.drewN nq) w1.heap.size (.slice a0 k0 c0) (.slice (some ⟨g1, 0, none⟩) n c1) (.slice a2 m c2) (.slice al kl cl) xs ys zs fc n ∧ Turned (InKO ys zs) w2 (w4.drewN nq)) := ⟨HS4.out.1.drewN nq, HS4.out.2.below0 (below_drewN (Below.refl _ _) nq)⟩
        have HC5 : Hid ((w4.drewN nq).cell? ⟨g2, 0, none⟩ = some (.int .i64 (p : Int)) ∧ (w4.drewN nq).cell? ⟨g2, 1, none⟩ = some (.int .i64 (q : Int)) ∧ g2 < (w4.drewN nq).heap.size) := ⟨s1, s2, hg2b⟩
        clear HQ4 HR4 HS4 x0 x1 x2 x3 xf r1 r2 s0 s1 s2 hg2b CK
        generalize w4.drewN nq = w5 at *
        obtain ⟨-, x0, x1, x2, x3, xf⟩ := HQ5.out
        by_cases hsz : sq = 0
        · have d0 : (sq == 0) = true := beq_iff_eq.2 hsz
          obtain ⟨g3, gj, cj, hg3, s1, ⟨oo, s2⟩, s3, s4, s5⟩ := CO.out w5 HS5.out.1
          have hgj : gj < w2.heap.size := (HLO.out gj (.inr s4)).2
          have hgj2 : w1.heap.size ≤ gj := (HLO.out gj (.inr s4)).1
          have HZ6 : Hid (fn = ⟨fc.lk, fc.kn, setR fc.ow i u 0, fc.ln⟩) := HZS.out hsz
          have HS6 : Hid (SF (w5.setCell ⟨gj, u, none⟩ (.int .i64 0)) w1.heap.size (.slice a0 k0 c0) (.slice (some ⟨g1, 0, none⟩) n c1) (.slice a2 m c2) (.slice al kl cl) xs ys zs fn n) := by rw [HZ6.out]; exact s5 0 (by omega) (by omega)
          have HQ6 : Hid (Bx4 (w5.setCell ⟨gj, u, none⟩ (.int .i64 0)) w2.heap.size (.slice a0 k0 c0) (.slice (some ⟨g1, 0, none⟩) n c1) (.slice a2 m c2) (.slice al kl cl)) := HQ5.out.other (by simp; omega) _
          have HR6 : Hid (Bx4 (w5.setCell ⟨gj, u, none⟩ (.int .i64 0)) (W.heap.size + 1) (.slice none 0 0) (.slice none 0 0) (.slice none 0 0) (.slice none 0 0)) := HR5.out.other (by simp; omega) _
          have HT6 : Hid (Turned (InKO ys zs) w2 (w5.setCell ⟨gj, u, none⟩ (.int .i64 0))) := HS5.out.2.set (.inl (.inr s4)) _
          obtain ⟨na, nb, hnab⟩ := HFX.out fn
          have HNAB : Hid (((∃ i u : Nat, FirstO fn.ow i u ∧ na = (i : Int) ∧ nb = (u : Int)) ∨ (NoneO fn.ow ∧ na = -1 ∧ nb = -1))) := hnab
          have HLN6 : Hid (fn.ln.length ≤ 40) := by have := HLN4.out; rw [HZ6.out]; exact this
          have C6 : Hid (Calls Try.prog 37 #[.agg #[.slice a0 k0 c0, .slice (some ⟨g1, 0, none⟩) n c1, .slice a2 m c2, .slice al kl cl]] (w5.setCell ⟨gj, u, none⟩ (.int .i64 0)) fun e W' => e = .returned (.tuple #[.int .i64 na, .int .i64 nb]) ∧ Below ((w5.setCell ⟨gj, u, none⟩ (.int .i64 0))).heap.size (w5.setCell ⟨gj, u, none⟩ (.int .i64 0)) W') := HCF.out (w5.setCell ⟨gj, u, none⟩ (.int .i64 0)) fn _ HS6.out na nb hnab
          clear hsz s4 s5 HZS HNS CTE CTA HF7 CO HFX hnab HLN4 HQ5 HR5 HS5
          subst hg3
          obtain ⟨-, y0, y1, y2, y3, yf⟩ := HQ6.out
          go_wp2_with fail
          refine C6.out.mono ?_
          clear x0 x1 x2 x3 xf y0 y1 y2 y3 yf
          rintro e w7 ⟨rfl, hb7⟩
          have HST7 : Hid (fn.ln.length ≤ 40 ∧ SF w7 w1.heap.size (.slice a0 k0 c0) (.slice (some ⟨g1, 0, none⟩) n c1) (.slice (some ⟨g3, 0, none⟩) m c2) (.slice al kl cl) xs ys zs fn n ∧ Bx4 w7 w2.heap.size (.slice a0 k0 c0) (.slice (some ⟨g1, 0, none⟩) n c1) (.slice (some ⟨g3, 0, none⟩) m c2) (.slice al kl cl) ∧ Bx4 w7 (W.heap.size + 1) (.slice none 0 0) (.slice none 0 0) (.slice none 0 0) (.slice none 0 0) ∧ Turned (InKO ys zs) w2 w7) := ⟨HLN6.out, HS6.out.below hb7, HQ6.out.below hb7, HR6.out.below hb7, HT6.out.below0 hb7⟩
          clear hb7 C6 HS6 HQ6 HR6 HT6 HLN6
          go_wp2
          go_roundw
          case rel => exact ⟨j + 1, m1, fn, al, kl, cl, na, nb, by go_num, rfl, rfl, by have := HSTEP.out.2.2; omega, HSTEP.out.1, HSTEP.out.2.1, HNAB.out, HST7.out⟩
          case measure => have := HSTEP.out.2.2; simp [intOf]; omega
        · have d0 : (sq == 0) = false := beq_eq_false_iff_ne.2 hsz
          have HNE : Hid (sq ≠ 0) := hsz
          clear hsz
          have HB6 : Hid (Below w2.heap.size w5 (w5.setCell ⟨w2.heap.size, 3, none⟩ (.slice none 0 0))) := (Below.refl _ w5).setCell (by simp) _
          have HS6 : Hid (SF (w5.setCell ⟨w2.heap.size, 3, none⟩ (.slice none 0 0)) w1.heap.size (.slice a0 k0 c0) (.slice (some ⟨g1, 0, none⟩) n c1) (.slice a2 m c2) (.slice none 0 0) xs ys zs ⟨fc.lk, fc.kn, fc.ow, []⟩ n ∧ Turned (InKO ys zs) w2 (w5.setCell ⟨w2.heap.size, 3, none⟩ (.slice none 0 0))) := ⟨HW.out.keep2 HS5.out.1.noLine (fun b hb => by simp [Value.ownBlock] at hb) HB6.out, HS5.out.2.keep HB6.out⟩
          have HQ6 : Hid (Bx4 (w5.setCell ⟨w2.heap.size, 3, none⟩ (.slice none 0 0)) w2.heap.size (.slice a0 k0 c0) (.slice (some ⟨g1, 0, none⟩) n c1) (.slice a2 m c2) (.slice none 0 0)) := HQ5.out.put3 _
          have HR6 : Hid (Bx4 (w5.setCell ⟨w2.heap.size, 3, none⟩ (.slice none 0 0)) (W.heap.size + 1) (.slice none 0 0) (.slice none 0 0) (.slice none 0 0) (.slice none 0 0)) := HR5.out.other (by simp; omega) _
          have HC6 : Hid (((w5.setCell ⟨w2.heap.size, 3, none⟩ (.slice none 0 0)).cell? ⟨g2, 0, none⟩ = some (.int .i64 (p : Int)) ∧ (w5.setCell ⟨w2.heap.size, 3, none⟩ (.slice none 0 0)).cell? ⟨g2, 1, none⟩ = some (.int .i64 (q : Int))) ∧ g2 < ((w5.setCell ⟨w2.heap.size, 3, none⟩ (.slice none 0 0))).heap.size) := ⟨⟨(cellOther w5 (p := ⟨w2.heap.size, 3, none⟩) (q := ⟨g2, 0, none⟩) (by simp; omega) (.slice none 0 0)).trans HC5.out.1, (cellOther w5 (p := ⟨w2.heap.size, 3, none⟩) (q := ⟨g2, 1, none⟩) (by simp; omega) (.slice none 0 0)).trans HC5.out.2.1⟩, by simpa [World.setCell] using HC5.out.2.2⟩
          have HSd : Hid (SF ((w5.setCell ⟨w2.heap.size, 3, none⟩ (.slice none 0 0))).drew w1.heap.size (.slice a0 k0 c0) (.slice (some ⟨g1, 0, none⟩) n c1) (.slice a2 m c2) (.slice none 0 0) xs ys zs ⟨fc.lk, fc.kn, fc.ow, []⟩ n ∧ Turned (InKO ys zs) w2 ((w5.setCell ⟨w2.heap.size, 3, none⟩ (.slice none 0 0))).drew) := ⟨HS6.out.1.below (Below.refl _ _).drew, HS6.out.2.below0 (Below.refl _ _).drew⟩
          have HQd : Hid (Bx4 ((w5.setCell ⟨w2.heap.size, 3, none⟩ (.slice none 0 0))).drew w2.heap.size (.slice a0 k0 c0) (.slice (some ⟨g1, 0, none⟩) n c1) (.slice a2 m c2) (.slice none 0 0)) := HQ6.out.below (Below.refl _ _).drew
          have HRd : Hid (Bx4 ((w5.setCell ⟨w2.heap.size, 3, none⟩ (.slice none 0 0))).drew (W.heap.size + 1) (.slice none 0 0) (.slice none 0 0) (.slice none 0 0) (.slice none 0 0)) := HR6.out.below (Below.refl _ _).drew
          have HCd : Hid ((((w5.setCell ⟨w2.heap.size, 3, none⟩ (.slice none 0 0))).drew.cell? ⟨g2, 0, none⟩ = some (.int .i64 (p : Int)) ∧ ((w5.setCell ⟨w2.heap.size, 3, none⟩ (.slice none 0 0))).drew.cell? ⟨g2, 1, none⟩ = some (.int .i64 (q : Int))) ∧ g2 < ((w5.setCell ⟨w2.heap.size, 3, none⟩ (.slice none 0 0))).drew.heap.size) := HC6.out
          have hFN : fn = takeA f7 p u sq i := HNS.out HNE.out
          have HFN : Hid (fn = takeA f7 p u sq i) := hFN
          clear hFN HB6 HS6 HR6 HC6 HS5 HR5 HC5 HZS HNS CO HNE HLN4
          go_wp2
          refine wp_region_held_drew (S := (fun w' => w'.cell? ⟨g2, 0, none⟩ = some (.int .i64 (p : Int)) ∧ w'.cell? ⟨g2, 1, none⟩ = some (.int .i64 (q : Int)))) (by kernel_rfl) ?_ (fun hHeld => ?_)
          · exact HCd.out.1
          clear x0 x1 x2 x3 xf HQ5 HQ6
          generalize ((w5.setCell ⟨w2.heap.size, 3, none⟩ (.slice none 0 0))).drew = wd at *
          refine handRead 1 (some 63) (.slice (some ⟨g2, 0, none⟩) 2 cg) rfl rfl (by kernel_rfl) (by kernel_rfl) (by kernel_rfl) (fun _ _ _ h => h) (by kernel_rfl) (by assumption) ?_ ?_
          · intro w hSw
            (try dsimp only at hSw)
            go_simp
          simp only [Act.put, List.setIfInBounds_toArray, List.set_cons_zero, List.set_cons_succ]
          refine handRead 2 (some 64) (.pointer (some ⟨g2, 1, none⟩)) rfl rfl (by kernel_rfl) (by kernel_rfl) (by kernel_rfl) (fun _ _ _ h => h) (by kernel_rfl) (by assumption) ?_ ?_
          · intro w hSw
            (try dsimp only at hSw)
            go_simp
          simp only [Act.put, List.setIfInBounds_toArray, List.set_cons_zero, List.set_cons_succ]
          refine handRead 3 (some 65) (.int .i64 (q : Int)) rfl rfl (by kernel_rfl) (by kernel_rfl) (by kernel_rfl) (fun _ _ _ h => h) (by kernel_rfl) (by assumption) ?_ ?_
          · intro w hSw
            (try dsimp only at hSw)
            go_simp
          simp only [Act.put, List.setIfInBounds_toArray, List.set_cons_zero, List.set_cons_succ]
          refine handRead 4 (some 66) (.slice (some ⟨g2, 0, none⟩) 2 cg) rfl rfl (by kernel_rfl) (by kernel_rfl) (by kernel_rfl) (fun _ _ _ h => h) (by kernel_rfl) (by assumption) ?_ ?_
          · intro w hSw
            (try dsimp only at hSw)
            go_simp
          simp only [Act.put, List.setIfInBounds_toArray, List.set_cons_zero, List.set_cons_succ]
          refine handRead 5 (some 67) (.pointer (some ⟨g2, 0, none⟩)) rfl rfl (by kernel_rfl) (by kernel_rfl) (by kernel_rfl) (fun _ _ _ h => h) (by kernel_rfl) (by assumption) ?_ ?_
          · intro w hSw
            (try dsimp only at hSw)
            go_simp
          simp only [Act.put, List.setIfInBounds_toArray, List.set_cons_zero, List.set_cons_succ]
          refine handRead 6 (some 68) (.int .i64 (p : Int)) rfl rfl (by kernel_rfl) (by kernel_rfl) (by kernel_rfl) (fun _ _ _ h => h) (by kernel_rfl) (by assumption) ?_ ?_
          · intro w hSw
            (try dsimp only at hSw)
            go_simp
          simp only [Act.put, List.setIfInBounds_toArray, List.set_cons_zero, List.set_cons_succ]
          refine handRead 7 (some 69) (.int .i64 (u : Int)) rfl rfl (by kernel_rfl) (by kernel_rfl) (by kernel_rfl) (fun _ _ _ h => h) (by kernel_rfl) (by assumption) ?_ ?_
          · intro w hSw
            (try dsimp only at hSw)
            go_simp
          simp only [Act.put, List.setIfInBounds_toArray, List.set_cons_zero, List.set_cons_succ]
          refine handRead 8 (some 70) (.int .i64 sq) rfl rfl (by kernel_rfl) (by kernel_rfl) (by kernel_rfl) (fun _ _ _ h => h) (by kernel_rfl) (by assumption) ?_ ?_
          · intro w hSw
            (try dsimp only at hSw)
            go_simp
          simp only [Act.put, List.setIfInBounds_toArray, List.set_cons_zero, List.set_cons_succ]
          refine handRead 9 (some 71) (.agg #[.int .i64 (u : Int), .int .i64 sq]) rfl rfl (by kernel_rfl) (by kernel_rfl) (by kernel_rfl) (fun _ _ _ h => h) (by kernel_rfl) (by assumption) ?_ ?_
          · intro w hSw
            (try dsimp only at hSw)
            go_simp
          simp only [Act.put, List.setIfInBounds_toArray, List.set_cons_zero, List.set_cons_succ]
          refine handRead 10 (some 72) (.agg #[.int .i64 (q : Int), .int .i64 (p : Int), .int .i64 (u : Int), .int .i64 sq, .bool false]) rfl rfl (by kernel_rfl) (by kernel_rfl) (by kernel_rfl) (fun _ _ _ h => h) (by kernel_rfl) (by assumption) ?_ ?_
          · intro w hSw
            (try dsimp only at hSw)
            go_simp
          simp only [Act.put, List.setIfInBounds_toArray, List.set_cons_zero, List.set_cons_succ]
          obtain ⟨-, x0, x1, x2, x3, xf⟩ := HQd.out
          refine wpAnyH_ready (rs := [0]) (by kernel_rfl) (by simp) ?_
          refine AllReadyH.cons rfl (fun K hK => ?_) AllReadyH.nil
          go_simp
          refine hK.out _ _ ?_ (fun hHeld => ?_)
          · exact HCd.out.1
          clear hK K x0 x1 x2 x3 xf
          try simp only [Act.put, List.setIfInBounds_toArray, List.set_cons_zero, List.set_cons_succ]
          refine wpAnyH_ready (rs := [11]) (by kernel_rfl) (by simp) ?_
          refine AllReadyH.cons rfl (fun K hK => ?_) AllReadyH.nil
          refine step_go (by rfl) 39 #[.agg #[.slice a0 k0 c0, .slice (some ⟨g1, 0, none⟩) n c1, .slice a2 m c2, .slice none 0 0], .agg #[.int .i64 (q : Int), .int .i64 (p : Int), .int .i64 (u : Int), .int .i64 sq, .bool false]] (by simp [go_sem]) ((CTE.out _ HSd.out.1).mono ?_)
          rintro e w7 ⟨l7, rfl, h7, ho7, ht7⟩
          refine ⟨_, rfl, ?_⟩
          obtain ⟨a7, c7, hl7⟩ := OwnLt.shape ho7
          replace hl7 : l7 = .slice a7 1 c7 := hl7
          subst hl7
          have HQ7 : Hid (Bx4 w7 w2.heap.size (.slice a0 k0 c0) (.slice (some ⟨g1, 0, none⟩) n c1) (.slice a2 m c2) (.slice none 0 0)) := HQd.out.turned ht7 (fun hb => by have := (HLO.out _ hb).2; omega)
          have HR7 : Hid (Bx4 w7 (W.heap.size + 1) (.slice none 0 0) (.slice none 0 0) (.slice none 0 0) (.slice none 0 0)) := HRd.out.turned ht7 (fun hb => by have := (HLO.out _ hb).1; omega)
          have hg7 : w7.heap[g2]? = wd.heap[g2]? := ht7.block g2 HCd.out.2 (fun hb => by have := (HLO.out _ hb).2; omega)
          have HC7 : Hid (w7.cell? ⟨g2, 0, none⟩ = some (.int .i64 (p : Int)) ∧ w7.cell? ⟨g2, 1, none⟩ = some (.int .i64 (q : Int))) := ⟨(World.cell?_of_block hg7).trans HCd.out.1.1, (World.cell?_of_block hg7).trans HCd.out.1.2⟩
          have HS7 : Hid (SF w7 w1.heap.size (.slice a0 k0 c0) (.slice (some ⟨g1, 0, none⟩) n c1) (.slice a2 m c2) (.slice none 0 0) xs ys zs f7 n ∧ Turned (InKO ys zs) w2 w7) := ⟨h7, HSd.out.2.trans ht7⟩
          have hzd : w2.heap.size + 1 ≤ wd.heap.size := by have := HQd.out.lt; omega
          have HO7 : Hid (OwnLt w7 (w2.heap.size + 1) (.slice a7 1 c7) [⟨(p : Int), (q : Int), (u : Int), sq, true⟩]) := OwnLt.mono ho7 hzd
          clear h7 ho7 ht7 hg7 HSd HQd HRd HCd CTE
          refine hK.out _ _ (by exact HC7.out) (fun hHeld => ?_)
          clear hK K
          try simp only [Act.put, List.setIfInBounds_toArray]
          have HB8 : Hid (Below w2.heap.size w7 ((((w7.setCell ⟨w2.heap.size, 0, none⟩ (.slice a0 k0 c0)).setCell ⟨w2.heap.size, 1, none⟩ (.slice (some ⟨g1, 0, none⟩) n c1)).setCell ⟨w2.heap.size, 2, none⟩ (.slice a2 m c2)).setCell ⟨w2.heap.size, 3, none⟩ (.slice a7 1 c7))) := ((((Below.refl _ w7).setCell (by simp) _).setCell (by simp) _).setCell (by simp) _).setCell (by simp) _
          have HS8 : Hid (SF ((((w7.setCell ⟨w2.heap.size, 0, none⟩ (.slice a0 k0 c0)).setCell ⟨w2.heap.size, 1, none⟩ (.slice (some ⟨g1, 0, none⟩) n c1)).setCell ⟨w2.heap.size, 2, none⟩ (.slice a2 m c2)).setCell ⟨w2.heap.size, 3, none⟩ (.slice a7 1 c7)) w1.heap.size (.slice a0 k0 c0) (.slice (some ⟨g1, 0, none⟩) n c1) (.slice a2 m c2) (.slice none 0 0) xs ys zs f7 n ∧ Turned (InKO ys zs) w2 ((((w7.setCell ⟨w2.heap.size, 0, none⟩ (.slice a0 k0 c0)).setCell ⟨w2.heap.size, 1, none⟩ (.slice (some ⟨g1, 0, none⟩) n c1)).setCell ⟨w2.heap.size, 2, none⟩ (.slice a2 m c2)).setCell ⟨w2.heap.size, 3, none⟩ (.slice a7 1 c7))) := ⟨HW.out.keep2 HS7.out.1 (fun b hb => by simp [Value.ownBlock] at hb) HB8.out, HS7.out.2.keep HB8.out⟩
          have HQ8 : Hid (Bx4 ((((w7.setCell ⟨w2.heap.size, 0, none⟩ (.slice a0 k0 c0)).setCell ⟨w2.heap.size, 1, none⟩ (.slice (some ⟨g1, 0, none⟩) n c1)).setCell ⟨w2.heap.size, 2, none⟩ (.slice a2 m c2)).setCell ⟨w2.heap.size, 3, none⟩ (.slice a7 1 c7)) w2.heap.size (.slice a0 k0 c0) (.slice (some ⟨g1, 0, none⟩) n c1) (.slice a2 m c2) (.slice a7 1 c7)) := (((HQ7.out.put0 _).put1 _).put2 _).put3 _
          have HR8 : Hid (Bx4 ((((w7.setCell ⟨w2.heap.size, 0, none⟩ (.slice a0 k0 c0)).setCell ⟨w2.heap.size, 1, none⟩ (.slice (some ⟨g1, 0, none⟩) n c1)).setCell ⟨w2.heap.size, 2, none⟩ (.slice a2 m c2)).setCell ⟨w2.heap.size, 3, none⟩ (.slice a7 1 c7)) (W.heap.size + 1) (.slice none 0 0) (.slice none 0 0) (.slice none 0 0) (.slice none 0 0)) := (((HR7.out.other (by simp; omega) _).other (by simp; omega) _).other (by simp; omega) _).other (by simp; omega) _
          have HO8 : Hid (OwnLt ((((w7.setCell ⟨w2.heap.size, 0, none⟩ (.slice a0 k0 c0)).setCell ⟨w2.heap.size, 1, none⟩ (.slice (some ⟨g1, 0, none⟩) n c1)).setCell ⟨w2.heap.size, 2, none⟩ (.slice a2 m c2)).setCell ⟨w2.heap.size, 3, none⟩ (.slice a7 1 c7)) (w2.heap.size + 1) (.slice a7 1 c7) [⟨(p : Int), (q : Int), (u : Int), sq, true⟩]) := (((HO7.out.setCell (by simp) _).setCell (by simp) _).setCell (by simp) _).setCell (by simp) _
          have HC8 : Hid (((((w7.setCell ⟨w2.heap.size, 0, none⟩ (.slice a0 k0 c0)).setCell ⟨w2.heap.size, 1, none⟩ (.slice (some ⟨g1, 0, none⟩) n c1)).setCell ⟨w2.heap.size, 2, none⟩ (.slice a2 m c2)).setCell ⟨w2.heap.size, 3, none⟩ (.slice a7 1 c7)).cell? ⟨g2, 0, none⟩ = some (.int .i64 (p : Int)) ∧ ((((w7.setCell ⟨w2.heap.size, 0, none⟩ (.slice a0 k0 c0)).setCell ⟨w2.heap.size, 1, none⟩ (.slice (some ⟨g1, 0, none⟩) n c1)).setCell ⟨w2.heap.size, 2, none⟩ (.slice a2 m c2)).setCell ⟨w2.heap.size, 3, none⟩ (.slice a7 1 c7)).cell? ⟨g2, 1, none⟩ = some (.int .i64 (q : Int))) := by
            have hne : ∀ j k : Nat, (⟨g2, j, none⟩ : Addr).block ≠ (⟨w2.heap.size, k, none⟩ : Addr).block := fun j k => by simp; omega
            constructor
            · rw [cellOther _ (hne 0 3), cellOther _ (hne 0 2), cellOther _ (hne 0 1), cellOther _ (hne 0 0)]; exact HC7.out.1
            · rw [cellOther _ (hne 1 3), cellOther _ (hne 1 2), cellOther _ (hne 1 1), cellOther _ (hne 1 0)]; exact HC7.out.2
          obtain ⟨-, y0, y1, y2, y3, yf⟩ := HQ7.out
          refine wpAnyH_ready (rs := [12]) (by kernel_rfl) (by simp) ?_
          refine AllReadyH.cons rfl (fun K hK => ?_) AllReadyH.nil
          go_simp
          refine hK.out _ _ ?_ (fun hHeld => ?_)
          · exact HC8.out
          clear hK K y0 y1 y2 y3 yf
          try simp only [Act.put, List.setIfInBounds_toArray, List.set_cons_zero, List.set_cons_succ]
          refine wpAnyH_done (by kernel_rfl) ?_ _
          clear HB8 HS7 HQ7 HR7 HO7 HC7 HC8
          generalize ((((w7.setCell ⟨w2.heap.size, 0, none⟩ (.slice a0 k0 c0)).setCell ⟨w2.heap.size, 1, none⟩ (.slice (some ⟨g1, 0, none⟩) n c1)).setCell ⟨w2.heap.size, 2, none⟩ (.slice a2 m c2)).setCell ⟨w2.heap.size, 3, none⟩ (.slice a7 1 c7)) = w8 at *
          have hz8 : w2.heap.size + 1 ≤ w8.heap.size := by have := HQ8.out.lt; omega
          obtain ⟨-, x0, x1, x2, x3, xf⟩ := HQ8.out
          have CDR : Hid (Calls Try.prog 40 #[.agg #[.slice a0 k0 c0, .slice (some ⟨g1, 0, none⟩) n c1, .slice a2 m c2, .slice a7 1 c7], .int .i64 0] w8 fun e W' => ∃ l', e = .returned (.tuple #[.agg #[.slice a0 k0 c0, .slice (some ⟨g1, 0, none⟩) n c1, .slice a2 m c2, l'], .agg #[.int .i64 (p : Int), .int .i64 (q : Int), .int .i64 (u : Int), .int .i64 sq, .bool true]]) ∧ OwnLt W' w8.heap.size l' [] ∧ Below w8.heap.size w8 W') := l6Drop_one w8 (w2.heap.size + 1) a0 (some ⟨g1, 0, none⟩) a2 k0 n m c0 c1 c2 _ ⟨(p : Int), (q : Int), (u : Int), sq, true⟩ HO8.out
          go_wp2_with fail
          refine CDR.out.mono ?_
          clear x0 x1 x2 x3 xf
          rintro e w9 ⟨l9, rfl, ho9, hb9⟩
          obtain ⟨a9, c9, hl9⟩ := OwnLt.shape ho9
          replace hl9 : l9 = .slice a9 0 c9 := hl9
          subst hl9
          have HS9 : Hid (SF w9 w1.heap.size (.slice a0 k0 c0) (.slice (some ⟨g1, 0, none⟩) n c1) (.slice a2 m c2) (.slice a9 0 c9) xs ys zs f7 n ∧ Turned (InKO ys zs) w2 w9) := ⟨by rw [← HF7.out]; exact (HS8.out.1.below hb9).withLine (OwnLt.mono ho9 (by omega)), HS8.out.2.below0 hb9⟩
          have HQ9 : Hid (Bx4 w9 w2.heap.size (.slice a0 k0 c0) (.slice (some ⟨g1, 0, none⟩) n c1) (.slice a2 m c2) (.slice a7 1 c7)) := HQ8.out.below hb9
          have HR9 : Hid (Bx4 w9 (W.heap.size + 1) (.slice none 0 0) (.slice none 0 0) (.slice none 0 0) (.slice none 0 0)) := HR8.out.below hb9
          have HLB : Hid (∀ c, (.slice a9 0 c9 : Value).ownBlock = some c → w8.heap.size ≤ c) := fun c hc => (World.ownsRow.lt ho9 c hc).1
          have hz9 : w8.heap.size ≤ w9.heap.size := hb9.size
          clear ho9 hb9 HS8 HQ8 HR8 HO8 CDR
          have hbX : Below w9.heap.size w9 ((w9.alloc (.cells #[.slice a0 k0 c0, .slice (some ⟨g1, 0, none⟩) n c1, .slice a2 m c2, .slice a9 0 c9] 31)).alloc (.cells #[.int .i64 (p : Int), .int .i64 (q : Int), .int .i64 (u : Int), .int .i64 sq, .bool true] 66)) := ((Below.refl _ w9).alloc (Nat.le_refl _) _).alloc (by simp) _
          have HSX : Hid (SF ((w9.alloc (.cells #[.slice a0 k0 c0, .slice (some ⟨g1, 0, none⟩) n c1, .slice a2 m c2, .slice a9 0 c9] 31)).alloc (.cells #[.int .i64 (p : Int), .int .i64 (q : Int), .int .i64 (u : Int), .int .i64 sq, .bool true] 66)) w1.heap.size (.slice a0 k0 c0) (.slice (some ⟨g1, 0, none⟩) n c1) (.slice a2 m c2) (.slice a9 0 c9) xs ys zs f7 n ∧ Turned (InKO ys zs) w2 ((w9.alloc (.cells #[.slice a0 k0 c0, .slice (some ⟨g1, 0, none⟩) n c1, .slice a2 m c2, .slice a9 0 c9] 31)).alloc (.cells #[.int .i64 (p : Int), .int .i64 (q : Int), .int .i64 (u : Int), .int .i64 sq, .bool true] 66))) := ⟨HS9.out.1.below hbX, HS9.out.2.below0 hbX⟩
          have HQX : Hid (Bx4 ((w9.alloc (.cells #[.slice a0 k0 c0, .slice (some ⟨g1, 0, none⟩) n c1, .slice a2 m c2, .slice a9 0 c9] 31)).alloc (.cells #[.int .i64 (p : Int), .int .i64 (q : Int), .int .i64 (u : Int), .int .i64 sq, .bool true] 66)) w2.heap.size (.slice a0 k0 c0) (.slice (some ⟨g1, 0, none⟩) n c1) (.slice a2 m c2) (.slice a7 1 c7)) := HQ9.out.below hbX
          have HRX : Hid (Bx4 ((w9.alloc (.cells #[.slice a0 k0 c0, .slice (some ⟨g1, 0, none⟩) n c1, .slice a2 m c2, .slice a9 0 c9] 31)).alloc (.cells #[.int .i64 (p : Int), .int .i64 (q : Int), .int .i64 (u : Int), .int .i64 sq, .bool true] 66)) (W.heap.size + 1) (.slice none 0 0) (.slice none 0 0) (.slice none 0 0) (.slice none 0 0)) := HR9.out.below hbX
          have HYX : Hid (Bx4 ((w9.alloc (.cells #[.slice a0 k0 c0, .slice (some ⟨g1, 0, none⟩) n c1, .slice a2 m c2, .slice a9 0 c9] 31)).alloc (.cells #[.int .i64 (p : Int), .int .i64 (q : Int), .int .i64 (u : Int), .int .i64 sq, .bool true] 66)) w9.heap.size (.slice a0 k0 c0) (.slice (some ⟨g1, 0, none⟩) n c1) (.slice a2 m c2) (.slice a9 0 c9)) := (Bx4.new w9 (.slice a0 k0 c0) (.slice (some ⟨g1, 0, none⟩) n c1) (.slice a2 m c2) (.slice a9 0 c9) 31).below ((Below.refl _ _).alloc (Nat.le_refl _) _)
          have HLX : Hid (Bx5 ((w9.alloc (.cells #[.slice a0 k0 c0, .slice (some ⟨g1, 0, none⟩) n c1, .slice a2 m c2, .slice a9 0 c9] 31)).alloc (.cells #[.int .i64 (p : Int), .int .i64 (q : Int), .int .i64 (u : Int), .int .i64 sq, .bool true] 66)) (w9.heap.size + 1) (.int .i64 (p : Int)) (.int .i64 (q : Int)) (.int .i64 (u : Int)) (.int .i64 sq) (.bool true)) := by
            have := Bx5.new (w9.alloc (.cells #[.slice a0 k0 c0, .slice (some ⟨g1, 0, none⟩) n c1, .slice a2 m c2, .slice a9 0 c9] 31)) (.int .i64 (p : Int)) (.int .i64 (q : Int)) (.int .i64 (u : Int)) (.int .i64 sq) (.bool true) 66
            exact (show Bx5 _ _ _ _ _ _ _ by simpa using this)
          have CX : Hid (Calls Try.prog 39 #[.agg #[.slice a0 k0 c0, .slice (some ⟨g1, 0, none⟩) n c1, .slice a2 m c2, .slice a9 0 c9], .agg #[.int .i64 (p : Int), .int .i64 (q : Int), .int .i64 (u : Int), .int .i64 sq, .bool true]] ((w9.alloc (.cells #[.slice a0 k0 c0, .slice (some ⟨g1, 0, none⟩) n c1, .slice a2 m c2, .slice a9 0 c9] 31)).alloc (.cells #[.int .i64 (p : Int), .int .i64 (q : Int), .int .i64 (u : Int), .int .i64 sq, .bool true] 66)) fun e W' => e = .returned (.agg #[.slice a0 k0 c0, .slice (some ⟨g1, 0, none⟩) n c1, .slice a2 m c2, .slice a9 0 c9]) ∧ SF W' w1.heap.size (.slice a0 k0 c0) (.slice (some ⟨g1, 0, none⟩) n c1) (.slice a2 m c2) (.slice a9 0 c9) xs ys zs (takeA f7 p u sq i) n ∧ Turned (InKO ys zs) ((w9.alloc (.cells #[.slice a0 k0 c0, .slice (some ⟨g1, 0, none⟩) n c1, .slice a2 m c2, .slice a9 0 c9] 31)).alloc (.cells #[.int .i64 (p : Int), .int .i64 (q : Int), .int .i64 (u : Int), .int .i64 sq, .bool true] 66)) W') := CTA.out _ _ HSX.out.1
          clear hbX HS9 HQ9 HR9
          obtain ⟨-, x0, x1, x2, x3, xf⟩ := HYX.out
          obtain ⟨-, l0, l1, l2, l3, l4, lf⟩ := HLX.out
          go_wp2_with fail
          refine CX.out.mono ?_
          clear x0 x1 x2 x3 xf l0 l1 l2 l3 l4 lf
          rintro e w11 ⟨rfl, h11, ht11⟩
          have HS11 : Hid (SF w11 w1.heap.size (.slice a0 k0 c0) (.slice (some ⟨g1, 0, none⟩) n c1) (.slice a2 m c2) (.slice a9 0 c9) xs ys zs fn n ∧ Turned (InKO ys zs) w2 w11) := ⟨by rw [HFN.out]; exact h11, HSX.out.2.trans ht11⟩
          have HQ11 : Hid (Bx4 w11 w2.heap.size (.slice a0 k0 c0) (.slice (some ⟨g1, 0, none⟩) n c1) (.slice a2 m c2) (.slice a7 1 c7)) := HQX.out.turned ht11 (fun hb => by have := (HLO.out _ hb).2; omega)
          have HR11 : Hid (Bx4 w11 (W.heap.size + 1) (.slice none 0 0) (.slice none 0 0) (.slice none 0 0) (.slice none 0 0)) := HRX.out.turned ht11 (fun hb => by have := (HLO.out _ hb).1; omega)
          clear h11 ht11 HSX HQX HRX HYX HLX CX CTA
          have HB12 : Hid (Below w2.heap.size w11 ((((w11.setCell ⟨w2.heap.size, 0, none⟩ (.slice a0 k0 c0)).setCell ⟨w2.heap.size, 1, none⟩ (.slice (some ⟨g1, 0, none⟩) n c1)).setCell ⟨w2.heap.size, 2, none⟩ (.slice a2 m c2)).setCell ⟨w2.heap.size, 3, none⟩ (.slice a9 0 c9))) := ((((Below.refl _ w11).setCell (by simp) _).setCell (by simp) _).setCell (by simp) _).setCell (by simp) _
          have HS12 : Hid (SF ((((w11.setCell ⟨w2.heap.size, 0, none⟩ (.slice a0 k0 c0)).setCell ⟨w2.heap.size, 1, none⟩ (.slice (some ⟨g1, 0, none⟩) n c1)).setCell ⟨w2.heap.size, 2, none⟩ (.slice a2 m c2)).setCell ⟨w2.heap.size, 3, none⟩ (.slice a9 0 c9)) w1.heap.size (.slice a0 k0 c0) (.slice (some ⟨g1, 0, none⟩) n c1) (.slice a2 m c2) (.slice a9 0 c9) xs ys zs fn n ∧ Turned (InKO ys zs) w2 ((((w11.setCell ⟨w2.heap.size, 0, none⟩ (.slice a0 k0 c0)).setCell ⟨w2.heap.size, 1, none⟩ (.slice (some ⟨g1, 0, none⟩) n c1)).setCell ⟨w2.heap.size, 2, none⟩ (.slice a2 m c2)).setCell ⟨w2.heap.size, 3, none⟩ (.slice a9 0 c9))) := ⟨HW.out.keep3 HS11.out.1 (fun c hc => by
              have hcn : c ≠ w2.heap.size := by have := HLB.out c hc; omega
              rw [Below.heap_setCell _ _ _ _ hcn, Below.heap_setCell _ _ _ _ hcn, Below.heap_setCell _ _ _ _ hcn, Below.heap_setCell _ _ _ _ hcn]) HB12.out, HS11.out.2.keep HB12.out⟩
          have HQ12 : Hid (Bx4 ((((w11.setCell ⟨w2.heap.size, 0, none⟩ (.slice a0 k0 c0)).setCell ⟨w2.heap.size, 1, none⟩ (.slice (some ⟨g1, 0, none⟩) n c1)).setCell ⟨w2.heap.size, 2, none⟩ (.slice a2 m c2)).setCell ⟨w2.heap.size, 3, none⟩ (.slice a9 0 c9)) w2.heap.size (.slice a0 k0 c0) (.slice (some ⟨g1, 0, none⟩) n c1) (.slice a2 m c2) (.slice a9 0 c9)) := (((HQ11.out.put0 _).put1 _).put2 _).put3 _
          have HR12 : Hid (Bx4 ((((w11.setCell ⟨w2.heap.size, 0, none⟩ (.slice a0 k0 c0)).setCell ⟨w2.heap.size, 1, none⟩ (.slice (some ⟨g1, 0, none⟩) n c1)).setCell ⟨w2.heap.size, 2, none⟩ (.slice a2 m c2)).setCell ⟨w2.heap.size, 3, none⟩ (.slice a9 0 c9)) (W.heap.size + 1) (.slice none 0 0) (.slice none 0 0) (.slice none 0 0) (.slice none 0 0)) := (((HR11.out.other (by simp; omega) _).other (by simp; omega) _).other (by simp; omega) _).other (by simp; omega) _
          obtain ⟨na, nb, hnab⟩ := HFX.out fn
          have HNAB : Hid (((∃ i u : Nat, FirstO fn.ow i u ∧ na = (i : Int) ∧ nb = (u : Int)) ∨ (NoneO fn.ow ∧ na = -1 ∧ nb = -1))) := hnab
          have HLN6 : Hid (fn.ln.length ≤ 40) := by
            have e1 : fn.ln = f7.ln := by rw [HFN.out]; unfold takeA; split <;> rfl
            have e2 : f7.ln = [] := (congrArg FD.ln HF7.out).symm
            show fn.ln.length ≤ 40
            rw [e1, e2]
            simp
          have C12 : Hid (Calls Try.prog 37 #[.agg #[.slice a0 k0 c0, .slice (some ⟨g1, 0, none⟩) n c1, .slice a2 m c2, .slice a9 0 c9]] ((((w11.setCell ⟨w2.heap.size, 0, none⟩ (.slice a0 k0 c0)).setCell ⟨w2.heap.size, 1, none⟩ (.slice (some ⟨g1, 0, none⟩) n c1)).setCell ⟨w2.heap.size, 2, none⟩ (.slice a2 m c2)).setCell ⟨w2.heap.size, 3, none⟩ (.slice a9 0 c9)) fun e W' => e = .returned (.tuple #[.int .i64 na, .int .i64 nb]) ∧ Below (((((w11.setCell ⟨w2.heap.size, 0, none⟩ (.slice a0 k0 c0)).setCell ⟨w2.heap.size, 1, none⟩ (.slice (some ⟨g1, 0, none⟩) n c1)).setCell ⟨w2.heap.size, 2, none⟩ (.slice a2 m c2)).setCell ⟨w2.heap.size, 3, none⟩ (.slice a9 0 c9))).heap.size ((((w11.setCell ⟨w2.heap.size, 0, none⟩ (.slice a0 k0 c0)).setCell ⟨w2.heap.size, 1, none⟩ (.slice (some ⟨g1, 0, none⟩) n c1)).setCell ⟨w2.heap.size, 2, none⟩ (.slice a2 m c2)).setCell ⟨w2.heap.size, 3, none⟩ (.slice a9 0 c9)) W') := HCF.out ((((w11.setCell ⟨w2.heap.size, 0, none⟩ (.slice a0 k0 c0)).setCell ⟨w2.heap.size, 1, none⟩ (.slice (some ⟨g1, 0, none⟩) n c1)).setCell ⟨w2.heap.size, 2, none⟩ (.slice a2 m c2)).setCell ⟨w2.heap.size, 3, none⟩ (.slice a9 0 c9)) fn _ HS12.out.1 na nb hnab
          obtain ⟨-, x0, x1, x2, x3, xf⟩ := HQ11.out
          obtain ⟨-, y0, y1, y2, y3, yf⟩ := HQ12.out
          clear hnab HFX HS11 HR11 HB12 HF7 HFN
          go_wp2_with fail
          refine C12.out.mono ?_
          clear x0 x1 x2 x3 xf y0 y1 y2 y3 yf
          rintro e w13 ⟨rfl, hb13⟩
          have HST7 : Hid (fn.ln.length ≤ 40 ∧ SF w13 w1.heap.size (.slice a0 k0 c0) (.slice (some ⟨g1, 0, none⟩) n c1) (.slice a2 m c2) (.slice a9 0 c9) xs ys zs fn n ∧ Bx4 w13 w2.heap.size (.slice a0 k0 c0) (.slice (some ⟨g1, 0, none⟩) n c1) (.slice a2 m c2) (.slice a9 0 c9) ∧ Bx4 w13 (W.heap.size + 1) (.slice none 0 0) (.slice none 0 0) (.slice none 0 0) (.slice none 0 0) ∧ Turned (InKO ys zs) w2 w13) := ⟨HLN6.out, HS12.out.1.below hb13, HQ12.out.below hb13, HR12.out.below hb13, HS12.out.2.below0 hb13⟩
          clear hb13 C12 HS12 HQ12 HR12 HLN6 HQ11
          go_wp2
          go_roundw
          case rel => exact ⟨j + 1, m1, fn, a9, 0, c9, na, nb, by go_num, rfl, rfl, by have := HSTEP.out.2.2; omega, HSTEP.out.1, HSTEP.out.2.1, HNAB.out, HST7.out⟩
          case measure => have := HSTEP.out.2.2; simp [intOf]; omega
      · obtain ⟨hm0, hgf⟩ := HK.out.1.zero hNo
        have HG : Hid (gg = fc) := hgf
        have HJ : Hid (j = k) := (show j = k by omega)
        have CO : Hid (Calls Try.prog 25 #[.agg #[.slice a0 k0 c0, .slice a1 n c1, .slice a2 m c2, .slice al kl cl]] wr fun e W' => ∃ x' y' z' l', e = .returned (.agg #[x', y', z', l']) ∧ (∃ xs' ys' zs', OwnF W' wr.heap.size x' y' z' l' xs' ys' zs' fc) ∧ Below wr.heap.size wr W') := l6Own_any wr w1.heap.size _ _ _ _ xs ys zs fc HK.out.2.2.2.2.1.own (HK.out.2.2.2.2.1.fit HK.out.2.2.2.1)
        have HS4 : Hid (Since W.heap.size W wr) := Since.turned (show Since W.heap.size W w2 from ⟨HB2.out, by omega⟩) HK.out.2.2.2.2.2.2.2 (fun b hb => by have := (HLO.out b hb).1; omega)
        have hri0 : ¬ 0 ≤ ri' := by omega
        clear hNo hgf hri hru
        go_wp2_with fail
        refine CO.out.mono ?_
        clear x0 x1 x2 x3 xf
        rintro e w5 ⟨x5, y5, z5, l5, rfl, ⟨xs5, ys5, zs5, ho5⟩, hb5⟩
        obtain ⟨e0, d0, hx5⟩ := ho5.lk.shape
        obtain ⟨e1, d1, hy5⟩ := ho5.kn.shape
        obtain ⟨e2, d2, hz5⟩ := ho5.ow.shape
        obtain ⟨e3, d3, hl5⟩ := ho5.ln.shape
        subst hx5 hy5 hz5 hl5
        have HR5 : Hid (Bx4 w5 (W.heap.size + 1) (.slice none 0 0) (.slice none 0 0) (.slice none 0 0) (.slice none 0 0)) := HK.out.2.2.2.2.2.2.1.below hb5
        have HS5 : Hid (Below W.heap.size W w5) := (HS4.out.step hb5).1
        have hz5 : W.heap.size + 2 ≤ wr.heap.size := by have := HK.out.2.2.2.2.2.2.1.lt; omega
        have HO5 : Hid (OwnF w5 (W.heap.size + 2) (.slice e0 fc.lk.length d0) (.slice e1 fc.kn.length d1) (.slice e2 fc.ow.length d2) (.slice e3 fc.ln.length d3) xs5 ys5 zs5 fc) := ho5.mono hz5
        clear ho5 hb5 HS4 HK CO
        have HRF : Hid (Bx4 ((((w5.setCell ⟨W.heap.size + 1, 0, none⟩ (.slice e0 fc.lk.length d0)).setCell ⟨W.heap.size + 1, 1, none⟩ (.slice e1 fc.kn.length d1)).setCell ⟨W.heap.size + 1, 2, none⟩ (.slice e2 fc.ow.length d2)).setCell ⟨W.heap.size + 1, 3, none⟩ (.slice e3 fc.ln.length d3)) (W.heap.size + 1) (.slice e0 fc.lk.length d0) (.slice e1 fc.kn.length d1) (.slice e2 fc.ow.length d2) (.slice e3 fc.ln.length d3)) := (((HR5.out.put0 _).put1 _).put2 _).put3 _
        have HBF : Hid (Below W.heap.size W ((((w5.setCell ⟨W.heap.size + 1, 0, none⟩ (.slice e0 fc.lk.length d0)).setCell ⟨W.heap.size + 1, 1, none⟩ (.slice e1 fc.kn.length d1)).setCell ⟨W.heap.size + 1, 2, none⟩ (.slice e2 fc.ow.length d2)).setCell ⟨W.heap.size + 1, 3, none⟩ (.slice e3 fc.ln.length d3))) := (((HS5.out.setCell (by simp) _).setCell (by simp) _).setCell (by simp) _).setCell (by simp) _
        have HOF : Hid (OwnF ((((w5.setCell ⟨W.heap.size + 1, 0, none⟩ (.slice e0 fc.lk.length d0)).setCell ⟨W.heap.size + 1, 1, none⟩ (.slice e1 fc.kn.length d1)).setCell ⟨W.heap.size + 1, 2, none⟩ (.slice e2 fc.ow.length d2)).setCell ⟨W.heap.size + 1, 3, none⟩ (.slice e3 fc.ln.length d3)) (W.heap.size + 2) (.slice e0 fc.lk.length d0) (.slice e1 fc.kn.length d1) (.slice e2 fc.ow.length d2) (.slice e3 fc.ln.length d3) xs5 ys5 zs5 fc) := (((HO5.out.setCell (by simp) _).setCell (by simp) _).setCell (by simp) _).setCell (by simp) _
        obtain ⟨-, y0, y1, y2, y3, yf⟩ := HR5.out
        go_wp2
        clear y0 y1 y2 y3 yf
        obtain ⟨-, y0, y1, y2, y3, yf⟩ := HRF.out
        refine bodyPost_ret (v := .tuple #[.agg #[.slice e0 fc.lk.length d0, .slice e1 fc.kn.length d1, .slice e2 fc.ow.length d2, .slice e3 fc.ln.length d3], .int .i64 (j : Int), .bool true]) (by simp [results, Try.results15, go_sem, y0, y1, y2, y3]) rfl ⟨_, _, _, _, by rw [HJ.out], ⟨xs5, ys5, zs5, by rw [HG.out]; exact HOF.out.mono (by omega)⟩, HBF.out⟩
end Go.Proofs.Ytkkamigaolejiax
