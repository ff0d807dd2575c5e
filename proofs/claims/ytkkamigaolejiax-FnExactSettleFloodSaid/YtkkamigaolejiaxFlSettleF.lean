/-
  'SettleFlood' of the program.
-/
import Derived.Test.YtkkamigaolejiaxFlSettleI
import Derived.Test.YtkkamigaolejiaxFlCopy
import Derived.Test.YtkkamigaolejiaxFlOwed
namespace Go.Proofs.Ytkkamigaolejiax
open Go.RowKit
set_option linter.unusedVariables false

theorem rowB_mat {rows : List (List Int)} {n : Nat} {top : Int} (h : ∀ j (hj : j < rows.length), rowB (n : Int) top rows[j] = true) : Mat rows rows.length n top := by
  have key : ∀ i, i < rows.length → (rows.getD i []).length = n ∧ ∀ j, j < n → 0 ≤ atR rows i j ∧ atR rows i j ≤ top := fun i hi => by
    have hb := h i hi
    unfold rowB at hb
    rw [Bool.and_eq_true] at hb
    have hl := of_decide_eq_true hb.1
    have hl' : rows[i].length = n := by omega
    refine ⟨by rw [getL_at rows i hi]; exact hl', fun j hj => ?_⟩
    unfold atR
    have hj' : j < rows[i].length := by omega
    rw [getL_at rows i hi, List.getD_eq_getElem?_getD, List.getElem?_eq_getElem hj']
    exact allB_at _ 0 top hb.2 j hj'
  exact ⟨rfl, fun i hi => (key i hi).1, fun i j hi hj => ((key i hi).2 j hj).1, fun i j hi hj => ((key i hi).2 j hj).2⟩
theorem goodF_num {f : FD} (h : goodF f = true) : Num (debtsL f.kn.length f.lk) f.kn.length (debtsL f.kn.length f.lk).length f ∧ linksB (f.kn.length : Int) f.lk = true ∧ 1 ≤ f.kn.length ∧ f.kn.length ≤ 6 := by
  obtain ⟨⟨h1, h6⟩, hl, -, ho, -, hk, hw, -⟩ := goodF_rows h
  have m1 := rowB_mat hk
  have m2 := rowB_mat hw
  rw [ho] at m2
  exact ⟨⟨m1, m2, rfl, fun i hi => (debt_at hl i hi).2.2.1, fun i hi => (debt_at hl i hi).2.2.2.1⟩, hl, h1, h6⟩
/-- What settling tells. -/
def SetR (f g : FD) (k : Nat) : Prop := (goodF f = true ∧ Settles (debtsL f.kn.length f.lk) f k g) ∨ (goodF f = false ∧ k = 0 ∧ g = noF)
theorem setR_ex (f : FD) : ∃ g k, SetR f g k := by
  cases hg : goodF f with
  | false => exact ⟨noF, 0, .inr ⟨hg, rfl, rfl⟩⟩
  | true =>
    obtain ⟨hn, hl, h1, h6⟩ := goodF_num hg
    have hb := far_bound hn h6 (debts36 _ _ h6)
    obtain ⟨k, g, hs⟩ := settles_ex f.lk h6 (debts36 _ _ h6) hl 2200000 f rfl hn hb.2
    exact ⟨g, k, .inl ⟨hg, hs⟩⟩

set_option maxRecDepth 100000 in
set_option maxHeartbeats 4000000 in
theorem implSettle_any (W : World) (B : Nat) (x y z l : Value) (xs ys zs : List Value) (f gg : FD) (k : Nat) (h : OwnF W B x y z l xs ys zs f) (hf : FitF f) (hr : SetR f gg k) :
    Calls Try.prog 16 #[.agg #[x, y, z, l]] W fun e W' => ∃ x' y' z' l', e = .returned (.tuple #[.agg #[x', y', z', l'], .int .i64 (k : Int), .bool (goodF f)]) ∧ (∃ xs' ys' zs', OwnF W' W.heap.size x' y' z' l' xs' ys' zs' gg) ∧ Below W.heap.size W W' := by
  obtain ⟨a0, c0, rfl⟩ := h.lk.shape
  obtain ⟨a1, c1, rfl⟩ := h.kn.shape
  obtain ⟨a2, c2, rfl⟩ := h.ow.shape
  obtain ⟨a3, c3, rfl⟩ := h.ln.shape
  have hb0 : Below W.heap.size W ((W.alloc (.cells #[.slice a0 f.lk.length c0, .slice a1 f.kn.length c1, .slice a2 f.ow.length c2, .slice a3 f.ln.length c3] 31)).alloc (.cells #[.slice none 0 0, .slice none 0 0, .slice none 0 0, .slice none 0 0] 31)) := ((Below.refl _ W).alloc (Nat.le_refl _) _).alloc (by simp) _
  have HX0 : Hid (Bx4 ((W.alloc (.cells #[.slice a0 f.lk.length c0, .slice a1 f.kn.length c1, .slice a2 f.ow.length c2, .slice a3 f.ln.length c3] 31)).alloc (.cells #[.slice none 0 0, .slice none 0 0, .slice none 0 0, .slice none 0 0] 31)) W.heap.size (.slice a0 f.lk.length c0) (.slice a1 f.kn.length c1) (.slice a2 f.ow.length c2) (.slice a3 f.ln.length c3)) := (Bx4.new W (.slice a0 f.lk.length c0) (.slice a1 f.kn.length c1) (.slice a2 f.ow.length c2) (.slice a3 f.ln.length c3) 31).below ((Below.refl _ _).alloc (Nat.le_refl _) _)
  have HR0 : Hid (Bx4 ((W.alloc (.cells #[.slice a0 f.lk.length c0, .slice a1 f.kn.length c1, .slice a2 f.ow.length c2, .slice a3 f.ln.length c3] 31)).alloc (.cells #[.slice none 0 0, .slice none 0 0, .slice none 0 0, .slice none 0 0] 31)) (W.heap.size + 1) (.slice none 0 0) (.slice none 0 0) (.slice none 0 0) (.slice none 0 0)) := by
    have := Bx4.new (W.alloc (.cells #[.slice a0 f.lk.length c0, .slice a1 f.kn.length c1, .slice a2 f.ow.length c2, .slice a3 f.ln.length c3] 31)) (.slice none 0 0) (.slice none 0 0) (.slice none 0 0) (.slice none 0 0) 31
    exact (show Bx4 _ _ _ _ _ _ by simpa using this)
  have HB0 : Hid (Below W.heap.size W ((W.alloc (.cells #[.slice a0 f.lk.length c0, .slice a1 f.kn.length c1, .slice a2 f.ow.length c2, .slice a3 f.ln.length c3] 31)).alloc (.cells #[.slice none 0 0, .slice none 0 0, .slice none 0 0, .slice none 0 0] 31))) := hb0
  have hz0 : W.heap.size + 2 ≤ (((W.alloc (.cells #[.slice a0 f.lk.length c0, .slice a1 f.kn.length c1, .slice a2 f.ow.length c2, .slice a3 f.ln.length c3] 31)).alloc (.cells #[.slice none 0 0, .slice none 0 0, .slice none 0 0, .slice none 0 0] 31))).heap.size := by simp
  have CG : Hid (Calls Try.prog 28 #[.agg #[.slice a0 f.lk.length c0, .slice a1 f.kn.length c1, .slice a2 f.ow.length c2, .slice a3 f.ln.length c3]] ((W.alloc (.cells #[.slice a0 f.lk.length c0, .slice a1 f.kn.length c1, .slice a2 f.ow.length c2, .slice a3 f.ln.length c3] 31)).alloc (.cells #[.slice none 0 0, .slice none 0 0, .slice none 0 0, .slice none 0 0] 31)) fun e W' => e = .returned (.bool (goodF f)) ∧ Below (((W.alloc (.cells #[.slice a0 f.lk.length c0, .slice a1 f.kn.length c1, .slice a2 f.ow.length c2, .slice a3 f.ln.length c3] 31)).alloc (.cells #[.slice none 0 0, .slice none 0 0, .slice none 0 0, .slice none 0 0] 31))).heap.size ((W.alloc (.cells #[.slice a0 f.lk.length c0, .slice a1 f.kn.length c1, .slice a2 f.ow.length c2, .slice a3 f.ln.length c3] 31)).alloc (.cells #[.slice none 0 0, .slice none 0 0, .slice none 0 0, .slice none 0 0] 31)) W') := implGoodF_any _ _ _ _ _ f (h.reads.below hb0) hf
  have CC : Hid (∀ w', Below W.heap.size W w' → Calls Try.prog 42 #[.agg #[.slice a0 f.lk.length c0, .slice a1 f.kn.length c1, .slice a2 f.ow.length c2, .slice a3 f.ln.length c3]] w' fun e W' => ∃ x' y' z' l', e = .returned (.agg #[x', y', z', l']) ∧ (∃ xs' ys' zs', OwnF W' w'.heap.size x' y' z' l' xs' ys' zs' f) ∧ Below w'.heap.size w' W') := fun w' hb => copyFlood_any w' B _ _ _ _ xs ys zs f (h.below hb) hf
  have HRR : Hid (SetR f gg k) := hr
  clear h hf hr hb0
  cases hg : goodF f with
  | false =>
    rw [hg] at CG
    have HG : Hid (k = 0 ∧ gg = noF) := by
      rcases HRR.out with ⟨e, -⟩ | ⟨-, e⟩
      · rw [hg] at e; cases e
      · exact e
    clear hg HRR CC
    go_enter Try.func16, Try.ntmps16
    generalize hw0 : ((W.alloc (.cells #[.slice a0 f.lk.length c0, .slice a1 f.kn.length c1, .slice a2 f.ow.length c2, .slice a3 f.ln.length c3] 31)).alloc (.cells #[.slice none 0 0, .slice none 0 0, .slice none 0 0, .slice none 0 0] 31)) = w0 at *
    obtain ⟨-, x0, x1, x2, x3, -⟩ := HX0.out
    go_wp2_with fail
    refine CG.out.mono ?_
    clear hw0 x0 x1 x2 x3
    rintro e w1 ⟨rfl, hb1⟩
    have HR1 : Hid (Bx4 w1 (W.heap.size + 1) (.slice none 0 0) (.slice none 0 0) (.slice none 0 0) (.slice none 0 0)) := HR0.out.below hb1
    have HB1 : Hid (Below W.heap.size W w1) := HB0.out.trans (hb1.mono (by omega))
    clear hb1 CG HR0 HX0 HB0
    obtain ⟨-, y0, y1, y2, y3, yf⟩ := HR1.out
    have HRF : Hid (Bx4 ((((w1.setCell ⟨W.heap.size + 1, 0, none⟩ (.slice none 0 0)).setCell ⟨W.heap.size + 1, 1, none⟩ (.slice none 0 0)).setCell ⟨W.heap.size + 1, 2, none⟩ (.slice none 0 0)).setCell ⟨W.heap.size + 1, 3, none⟩ (.slice none 0 0)) (W.heap.size + 1) (.slice none 0 0) (.slice none 0 0) (.slice none 0 0) (.slice none 0 0)) := (((HR1.out.put0 _).put1 _).put2 _).put3 _
    have HBF : Hid (Below W.heap.size W ((((w1.setCell ⟨W.heap.size + 1, 0, none⟩ (.slice none 0 0)).setCell ⟨W.heap.size + 1, 1, none⟩ (.slice none 0 0)).setCell ⟨W.heap.size + 1, 2, none⟩ (.slice none 0 0)).setCell ⟨W.heap.size + 1, 3, none⟩ (.slice none 0 0))) := (((HB1.out.setCell (by simp) _).setCell (by simp) _).setCell (by simp) _).setCell (by simp) _
    go_wp2
    clear y0 y1 y2 y3 yf
    obtain ⟨-, y0, y1, y2, y3, yf⟩ := HRF.out
    refine bodyPost_ret (v := .tuple #[.agg #[.slice none 0 0, .slice none 0 0, .slice none 0 0, .slice none 0 0], .int .i64 0, .bool false]) (by simp [results, Try.results16, go_sem, y0, y1, y2, y3]) rfl ⟨_, _, _, _, by rw [HG.out.1]; rfl, ⟨[], [], [], by rw [HG.out.2]; exact OwnF.nil _ _⟩, HBF.out⟩
  | true =>
    rw [hg] at CG
    have HG : Hid (Settles (debtsL f.kn.length f.lk) f k gg) := by
      rcases HRR.out with ⟨-, e⟩ | ⟨e, -⟩
      · exact e
      · rw [hg] at e; cases e
    have HN : Hid (Num (debtsL f.kn.length f.lk) f.kn.length (debtsL f.kn.length f.lk).length f ∧ linksB (f.kn.length : Int) f.lk = true ∧ 1 ≤ f.kn.length ∧ f.kn.length ≤ 6) := goodF_num hg
    clear hg HRR
    go_enter Try.func16, Try.ntmps16
    generalize hw0 : ((W.alloc (.cells #[.slice a0 f.lk.length c0, .slice a1 f.kn.length c1, .slice a2 f.ow.length c2, .slice a3 f.ln.length c3] 31)).alloc (.cells #[.slice none 0 0, .slice none 0 0, .slice none 0 0, .slice none 0 0] 31)) = w0 at *
    obtain ⟨-, x0, x1, x2, x3, -⟩ := HX0.out
    go_wp2_with fail
    refine CG.out.mono ?_
    clear hw0 x0 x1 x2 x3
    rintro e w1 ⟨rfl, hb1⟩
    have HX1 : Hid (Bx4 w1 W.heap.size (.slice a0 f.lk.length c0) (.slice a1 f.kn.length c1) (.slice a2 f.ow.length c2) (.slice a3 f.ln.length c3)) := HX0.out.below hb1
    have HR1 : Hid (Bx4 w1 (W.heap.size + 1) (.slice none 0 0) (.slice none 0 0) (.slice none 0 0) (.slice none 0 0)) := HR0.out.below hb1
    have HB1 : Hid (Below W.heap.size W w1) := HB0.out.trans (hb1.mono (by omega))
    have hz1 : W.heap.size + 2 ≤ w1.heap.size := Nat.le_trans hz0 hb1.size
    clear hb1 CG HR0 HX0 HB0 hz0
    obtain ⟨-, x0, x1, x2, x3, -⟩ := HX1.out
    go_wp2_with fail
    refine (CC.out _ HB1.out).mono ?_
    clear x0 x1 x2 x3
    rintro e w2 ⟨x2, y2, z2, l2, rfl, ⟨xs2, ys2, zs2, ho2⟩, hb2⟩
    have HR2 : Hid (Bx4 w2 (W.heap.size + 1) (.slice none 0 0) (.slice none 0 0) (.slice none 0 0) (.slice none 0 0)) := HR1.out.below hb2
    have HB2 : Hid (Below W.heap.size W w2) := HB1.out.trans (hb2.mono (by omega))
    have hz2 : W.heap.size ≤ w2.heap.size := by have := hb2.size; omega
    have HSF : Hid (SF w2 w1.heap.size x2 y2 z2 l2 xs2 ys2 zs2 f f.kn.length) := ⟨ho2, HN.out.1, HN.out.2.1, HN.out.2.2.1, HN.out.2.2.2, hb2.size⟩
    have HLO : Hid (∀ b, InKO ys2 zs2 b → w1.heap.size ≤ b) := fun b hb => hb.elim (fun e => (ho2.kn.inLt b e).1) (fun e => (ho2.ow.inLt b e).1)
    clear ho2 hb2 HR1 HX1 HB1 CC
    go_wp2_with fail
    refine (settle_any w2 w1.heap.size _ _ _ _ xs2 ys2 zs2 f gg f.kn.length k HSF.out HG.out).mono ?_
    rintro e w3 ⟨l3, rfl, h3, ht3⟩
    obtain ⟨e0, d0, hx3⟩ := h3.own.lk.shape
    obtain ⟨e1, d1, hy3⟩ := h3.own.kn.shape
    obtain ⟨e2, d2, hz3⟩ := h3.own.ow.shape
    obtain ⟨e3, d3, hl3⟩ := h3.own.ln.shape
    subst hx3 hy3 hz3 hl3
    have HR3 : Hid (Bx4 w3 (W.heap.size + 1) (.slice none 0 0) (.slice none 0 0) (.slice none 0 0) (.slice none 0 0)) := HR2.out.turned ht3 (fun hb => by have := HLO.out _ hb; omega)
    have HB3 : Hid (Below W.heap.size W w3) := (Since.turned (show Since W.heap.size W w2 from ⟨HB2.out, hz2⟩) ht3 (fun b hb => by have := HLO.out b hb; omega)).1
    have hz3' : W.heap.size + 2 ≤ w3.heap.size := by have := HR3.out.lt; omega
    have HO3 : Hid (OwnF w3 w1.heap.size (.slice e0 gg.lk.length d0) (.slice e1 gg.kn.length d1) (.slice e2 gg.ow.length d2) (.slice e3 gg.ln.length d3) xs2 ys2 zs2 gg) := h3.own
    have HRA : Hid (Bx4 (w3.alloc (.cells #[.slice e0 gg.lk.length d0, .slice e1 gg.kn.length d1, .slice e2 gg.ow.length d2, .slice e3 gg.ln.length d3] 31)) (W.heap.size + 1) (.slice none 0 0) (.slice none 0 0) (.slice none 0 0) (.slice none 0 0)) := HR3.out.below ((Below.refl _ _).alloc (Nat.le_refl _) _)
    have HQA : Hid (Bx4 (w3.alloc (.cells #[.slice e0 gg.lk.length d0, .slice e1 gg.kn.length d1, .slice e2 gg.ow.length d2, .slice e3 gg.ln.length d3] 31)) w3.heap.size (.slice e0 gg.lk.length d0) (.slice e1 gg.kn.length d1) (.slice e2 gg.ow.length d2) (.slice e3 gg.ln.length d3)) := Bx4.new _ _ _ _ _ _
    have HRF : Hid (Bx4 (((((w3.alloc (.cells #[.slice e0 gg.lk.length d0, .slice e1 gg.kn.length d1, .slice e2 gg.ow.length d2, .slice e3 gg.ln.length d3] 31)).setCell ⟨W.heap.size + 1, 0, none⟩ (.slice e0 gg.lk.length d0)).setCell ⟨W.heap.size + 1, 1, none⟩ (.slice e1 gg.kn.length d1)).setCell ⟨W.heap.size + 1, 2, none⟩ (.slice e2 gg.ow.length d2)).setCell ⟨W.heap.size + 1, 3, none⟩ (.slice e3 gg.ln.length d3)) (W.heap.size + 1) (.slice e0 gg.lk.length d0) (.slice e1 gg.kn.length d1) (.slice e2 gg.ow.length d2) (.slice e3 gg.ln.length d3)) := (((HRA.out.put0 _).put1 _).put2 _).put3 _
    have HBF : Hid (Below W.heap.size W (((((w3.alloc (.cells #[.slice e0 gg.lk.length d0, .slice e1 gg.kn.length d1, .slice e2 gg.ow.length d2, .slice e3 gg.ln.length d3] 31)).setCell ⟨W.heap.size + 1, 0, none⟩ (.slice e0 gg.lk.length d0)).setCell ⟨W.heap.size + 1, 1, none⟩ (.slice e1 gg.kn.length d1)).setCell ⟨W.heap.size + 1, 2, none⟩ (.slice e2 gg.ow.length d2)).setCell ⟨W.heap.size + 1, 3, none⟩ (.slice e3 gg.ln.length d3))) := ((((HB3.out.alloc (by omega) _).setCell (by simp) _).setCell (by simp) _).setCell (by simp) _).setCell (by simp) _
    have HOF : Hid (OwnF (((((w3.alloc (.cells #[.slice e0 gg.lk.length d0, .slice e1 gg.kn.length d1, .slice e2 gg.ow.length d2, .slice e3 gg.ln.length d3] 31)).setCell ⟨W.heap.size + 1, 0, none⟩ (.slice e0 gg.lk.length d0)).setCell ⟨W.heap.size + 1, 1, none⟩ (.slice e1 gg.kn.length d1)).setCell ⟨W.heap.size + 1, 2, none⟩ (.slice e2 gg.ow.length d2)).setCell ⟨W.heap.size + 1, 3, none⟩ (.slice e3 gg.ln.length d3)) w1.heap.size (.slice e0 gg.lk.length d0) (.slice e1 gg.kn.length d1) (.slice e2 gg.ow.length d2) (.slice e3 gg.ln.length d3) xs2 ys2 zs2 gg) := ((((HO3.out.below ((Below.refl _ _).alloc (Nat.le_refl _) _)).setCell (by simp; omega) _).setCell (by simp; omega) _).setCell (by simp; omega) _).setCell (by simp; omega) _
    clear h3 ht3 HR3 HB3 HO3 HSF HLO HR2 HB2
    obtain ⟨-, y0, y1, y2, y3, yf⟩ := HRA.out
    obtain ⟨-, q0, q1, q2, q3, -⟩ := HQA.out
    go_wp2
    clear y0 y1 y2 y3 yf q0 q1 q2 q3
    obtain ⟨-, y0, y1, y2, y3, yf⟩ := HRF.out
    refine bodyPost_ret (v := .tuple #[.agg #[.slice e0 gg.lk.length d0, .slice e1 gg.kn.length d1, .slice e2 gg.ow.length d2, .slice e3 gg.ln.length d3], .int .i64 (k : Int), .bool true]) (by simp [results, Try.results16, go_sem, y0, y1, y2, y3]) rfl ⟨_, _, _, _, rfl, ⟨xs2, ys2, zs2, HOF.out.mono (by omega)⟩, HBF.out⟩
end Go.Proofs.Ytkkamigaolejiax
