/-
  'setOwed' of the program.
-/

/-
  'oweToAll' of the program.
-/
import Derived.Test.YtkkamigaolejiaxFlTake
namespace Go.Proofs.Ytkkamigaolejiax
open Go.RowKit
set_option linter.unusedVariables false

theorem links2 {n : Nat} {lks : List (List Int)} (h : linksB (n : Int) lks = true) : ∀ j (hj : j < lks.length), lks[j].length = 2 := fun j hj => (linksB_mem h lks[j] (List.getElem_mem hj)).1
theorem Turned.set {P : Nat → Prop} {W w : World} (h : Turned P W w) {p : Addr} (hp : P p.block ∨ W.heap.size ≤ p.block) (u : Value) : Turned P W (w.setCell p u) :=
  ⟨h.os, h.tape, h.output, by have := h.size; simpa [World.setCell] using this, fun j hj hn => (Below.heap_setCell _ _ _ _ (fun e => by
    rcases hp with hp | hp
    · exact hn (by rw [e]; exact hp)
    · omega)).trans (h.block j hj hn)⟩
theorem Turned.belowEnd {P : Nat → Prop} {W w w' : World} (h : Turned P W w) (hb : Below w.heap.size w w') : Turned P W w' := h.trans (Turned.ofBelow hb)

set_option maxRecDepth 100000 in
set_option maxHeartbeats 2000000 in
theorem setOwed_any (W : World) (B : Nat) (x y z l : Value) (xs ys zs : List Value) (f : FD) (n : Nat) (h : SF W B x y z l xs ys zs f n) (p q : Int) (u k : Nat) (o : Int) (ho0 : 0 ≤ o) (ho1 : o ≤ 1) (hk : ixD (debtsL n f.lk) p q = (k : Int)) (hkm : k < (debtsL n f.lk).length) (hu : u < n) :
    Calls Try.prog 88 #[.agg #[x, y, z, l], .int .i64 p, .int .i64 q, .int .i64 (u : Int), .int .i64 o] W fun e W' => (∃ v, e = .returned v) ∧ SF W' B x y z l xs ys zs ⟨f.lk, f.kn, setR f.ow k u o, f.ln⟩ n ∧ Turned (InSS zs) W W' := by
  obtain ⟨hl1, hl2, hl3, hl4⟩ := h.lens
  obtain ⟨a0, c0, rfl⟩ := h.own.lk.shape
  obtain ⟨a1, c1, rfl⟩ := h.own.kn.shape
  obtain ⟨a2, c2, rfl⟩ := h.own.ow.shape
  obtain ⟨a3, c3, rfl⟩ := h.own.ln.shape
  have hb0 : Below W.heap.size W (W.alloc (.cells #[.slice a0 f.lk.length c0, .slice a1 f.kn.length c1, .slice a2 f.ow.length c2, .slice a3 f.ln.length c3] 31)) := (Below.refl _ W).alloc (Nat.le_refl _) _
  have HX0 : Hid (Bx4 (W.alloc (.cells #[.slice a0 f.lk.length c0, .slice a1 f.kn.length c1, .slice a2 f.ow.length c2, .slice a3 f.ln.length c3] 31)) W.heap.size (.slice a0 f.lk.length c0) (.slice a1 f.kn.length c1) (.slice a2 f.ow.length c2) (.slice a3 f.ln.length c3)) := Bx4.new _ _ _ _ _ _
  have H0 : Hid (SF (W.alloc (.cells #[.slice a0 f.lk.length c0, .slice a1 f.kn.length c1, .slice a2 f.ow.length c2, .slice a3 f.ln.length c3] 31)) B (.slice a0 f.lk.length c0) (.slice a1 f.kn.length c1) (.slice a2 f.ow.length c2) (.slice a3 f.ln.length c3) xs ys zs f n) := h.below hb0
  have HT0 : Hid (Turned (InSS zs) W (W.alloc (.cells #[.slice a0 f.lk.length c0, .slice a1 f.kn.length c1, .slice a2 f.ow.length c2, .slice a3 f.ln.length c3] 31))) := Turned.ofBelow hb0
  have hd36 := debts36 n f.lk h.n6
  have CD : Hid (Calls Try.prog 59 #[.int .i64 (f.kn.length : Int), .slice a0 f.lk.length c0] (W.alloc (.cells #[.slice a0 f.lk.length c0, .slice a1 f.kn.length c1, .slice a2 f.ow.length c2, .slice a3 f.ln.length c3] 31)) fun e W' => ∃ v', e = .returned v' ∧ OwnDb W' (W.alloc (.cells #[.slice a0 f.lk.length c0, .slice a1 f.kn.length c1, .slice a2 f.ow.length c2, .slice a3 f.ln.length c3] 31)).heap.size v' (debtsL n f.lk) ∧ Below (W.alloc (.cells #[.slice a0 f.lk.length c0, .slice a1 f.kn.length c1, .slice a2 f.ow.length c2, .slice a3 f.ln.length c3] 31)).heap.size (W.alloc (.cells #[.slice a0 f.lk.length c0, .slice a1 f.kn.length c1, .slice a2 f.ow.length c2, .slice a3 f.ln.length c3] 31)) W') := by
    have := debtsOf_any (W.alloc (.cells #[.slice a0 f.lk.length c0, .slice a1 f.kn.length c1, .slice a2 f.ow.length c2, .slice a3 f.ln.length c3] 31)) _ f.lk n H0.out.own.lk.reads (links2 h.lks) (by have := links15 h.lks (by have := h.n6; omega); omega) h.n6
    rw [hl1]
    rw [hl1] at this
    exact this
  have HCELL : Hid (∀ w', SF w' B (.slice a0 f.lk.length c0) (.slice a1 f.kn.length c1) (.slice a2 f.ow.length c2) (.slice a3 f.ln.length c3) xs ys zs f n → ∃ g gi ci, a2 = some ⟨g, 0, none⟩ ∧ w'.cell? ⟨g, k, none⟩ = some (.slice (some ⟨gi, 0, none⟩) n ci) ∧ (∃ oo, w'.cell? ⟨gi, u, none⟩ = some (.int .i64 oo)) ∧ w'.frozen? ⟨gi, u, none⟩ = false ∧ InSS zs gi ∧ SF (w'.setCell ⟨gi, u, none⟩ (.int .i64 o)) B (.slice a0 f.lk.length c0) (.slice a1 f.kn.length c1) (.slice a2 f.ow.length c2) (.slice a3 f.ln.length c3) xs ys zs ⟨f.lk, f.kn, setR f.ow k u o, f.ln⟩ n) := fun w' hw => by
    have hko : k < f.ow.length := by rw [hl2]; exact hkm
    obtain ⟨g, c, gi, ci, hv, q1, q2, q3, q4, -, q6⟩ := hw.own.ow.cell k u hko (by rw [hl4 k hko]; exact hu)
    simp only [Value.slice.injEq] at hv
    rw [hl4 k hko] at q1
    refine ⟨g, gi, ci, hv.1, q1, ⟨_, q2⟩, q3, q4, ⟨ow_inner hw.own q4 u _ (q6 o), ⟨hw.num.kn, hw.num.ow.set hkm hu ho0 ho1, hw.num.dl, hw.num.hp, hw.num.hq⟩, hw.lks, hw.n1, hw.n6, ?_⟩⟩
    have := hw.low
    simpa [World.setCell] using this
  have hkl : (k : Int) < (f.ow.length : Int) := by rw [hl2]; omega
  have hun : (u : Int) < (n : Int) := by omega
  have HL1 : Hid (f.kn.length = n) := hl1
  have HL2 : Hid (f.ow.length = (debtsL n f.lk).length) := hl2
  clear h hb0 hl1 hl2 hl3 hl4
  generalize hds : debtsL n f.lk = ds at *
  clear hds
  go_enter Try.func88, Try.ntmps88
  go_wp2_with fail
  refine CD.out.mono ?_
  rintro e w1 ⟨v1, rfl, ho1', hb1⟩
  have H1 : Hid (SF w1 B (.slice a0 f.lk.length c0) (.slice a1 f.kn.length c1) (.slice a2 f.ow.length c2) (.slice a3 f.ln.length c3) xs ys zs f n) := H0.out.below hb1
  have HX1 : Hid (Bx4 w1 W.heap.size (.slice a0 f.lk.length c0) (.slice a1 f.kn.length c1) (.slice a2 f.ow.length c2) (.slice a3 f.ln.length c3)) := HX0.out.below hb1
  have HT1 : Hid (Turned (InSS zs) W w1) := HT0.out.belowEnd hb1
  have CI : Hid (Calls Try.prog 90 #[v1, .agg #[.int .i64 p, .int .i64 q]] w1 fun e W' => e = .returned (.int .i64 (k : Int)) ∧ Below w1.heap.size w1 W') := by
    have := indexD_any w1 v1 ds p q ho1'.reads (by omega)
    rw [hk] at this
    exact this
  obtain ⟨b1, d1, hv1⟩ := ho1'.shape
  subst hv1
  clear ho1' hb1 CD H0 HX0 HT0
  go_wp2_with fail
  refine CI.out.mono ?_
  rintro e w2 ⟨rfl, hb2⟩
  have H2 : Hid (SF w2 B (.slice a0 f.lk.length c0) (.slice a1 f.kn.length c1) (.slice a2 f.ow.length c2) (.slice a3 f.ln.length c3) xs ys zs f n) := H1.out.below hb2
  have HT2 : Hid (Turned (InSS zs) W w2) := HT1.out.belowEnd hb2
  obtain ⟨-, x0, x1, x2, x3, -⟩ := HX1.out.below hb2
  obtain ⟨g, gi, ci, hg, r1, ⟨oo, r2⟩, r3, r4, r5⟩ := HCELL.out w2 H2.out
  have HF : Hid (SF (w2.setCell ⟨gi, u, none⟩ (.int .i64 o)) B (.slice a0 f.lk.length c0) (.slice a1 f.kn.length c1) (.slice a2 f.ow.length c2) (.slice a3 f.ln.length c3) xs ys zs ⟨f.lk, f.kn, setR f.ow k u o, f.ln⟩ n) := r5
  have HTF : Hid (Turned (InSS zs) W (w2.setCell ⟨gi, u, none⟩ (.int .i64 o))) := HT2.out.set (.inl r4) _
  clear hb2 r4 r5 CI H1 HX1 HT1 H2 HT2 HCELL hk
  subst hg
  go_wp2
  exact bodyPost_end (v := .tuple #[]) (by simp [results, Try.results88]) rfl ⟨⟨_, rfl⟩, HF.out, HTF.out⟩

end Go.Proofs.Ytkkamigaolejiax

namespace Go.Proofs.Ytkkamigaolejiax
open Go.RowKit
set_option linter.unusedVariables false

set_option maxRecDepth 100000 in
set_option maxHeartbeats 4000000 in
theorem oweToAll_any (W : World) (B : Nat) (x y z l : Value) (xs ys zs : List Value) (f : FD) (n : Nat) (h : SF W B x y z l xs ys zs f n) (p u : Nat) (hu : u < n) :
    Calls Try.prog 78 #[.agg #[x, y, z, l], .int .i64 (p : Int), .int .i64 (u : Int)] W fun e W' => (∃ v, e = .returned v) ∧ SF W' B x y z l xs ys zs ⟨f.lk, f.kn, oweTo (debtsL n f.lk) f.ow p u (debtsL n f.lk).length, f.ln⟩ n ∧ Turned (InSS zs) W W' := by
  obtain ⟨hl1, hl2, hl3, hl4⟩ := h.lens
  obtain ⟨a0, c0, rfl⟩ := h.own.lk.shape
  obtain ⟨a1, c1, rfl⟩ := h.own.kn.shape
  obtain ⟨a2, c2, rfl⟩ := h.own.ow.shape
  obtain ⟨a3, c3, rfl⟩ := h.own.ln.shape
  have hb0 : Below W.heap.size W (W.alloc (.cells #[.slice a0 f.lk.length c0, .slice a1 f.kn.length c1, .slice a2 f.ow.length c2, .slice a3 f.ln.length c3] 31)) := (Below.refl _ W).alloc (Nat.le_refl _) _
  have HX0 : Hid (Bx4 (W.alloc (.cells #[.slice a0 f.lk.length c0, .slice a1 f.kn.length c1, .slice a2 f.ow.length c2, .slice a3 f.ln.length c3] 31)) W.heap.size (.slice a0 f.lk.length c0) (.slice a1 f.kn.length c1) (.slice a2 f.ow.length c2) (.slice a3 f.ln.length c3)) := Bx4.new _ _ _ _ _ _
  have H0 : Hid (SF (W.alloc (.cells #[.slice a0 f.lk.length c0, .slice a1 f.kn.length c1, .slice a2 f.ow.length c2, .slice a3 f.ln.length c3] 31)) B (.slice a0 f.lk.length c0) (.slice a1 f.kn.length c1) (.slice a2 f.ow.length c2) (.slice a3 f.ln.length c3) xs ys zs f n) := h.below hb0
  have HT0 : Hid (Turned (InSS zs) W (W.alloc (.cells #[.slice a0 f.lk.length c0, .slice a1 f.kn.length c1, .slice a2 f.ow.length c2, .slice a3 f.ln.length c3] 31))) := Turned.ofBelow hb0
  have HZL : Hid (∀ b, InSS zs b → b < W.heap.size) := fun b hb => (h.own.ow.inLt b hb).2
  have hd36 := debts36 n f.lk h.n6
  have CD : Hid (Calls Try.prog 59 #[.int .i64 (f.kn.length : Int), .slice a0 f.lk.length c0] (W.alloc (.cells #[.slice a0 f.lk.length c0, .slice a1 f.kn.length c1, .slice a2 f.ow.length c2, .slice a3 f.ln.length c3] 31)) fun e W' => ∃ v', e = .returned v' ∧ OwnDb W' (W.alloc (.cells #[.slice a0 f.lk.length c0, .slice a1 f.kn.length c1, .slice a2 f.ow.length c2, .slice a3 f.ln.length c3] 31)).heap.size v' (debtsL n f.lk) ∧ Below (W.alloc (.cells #[.slice a0 f.lk.length c0, .slice a1 f.kn.length c1, .slice a2 f.ow.length c2, .slice a3 f.ln.length c3] 31)).heap.size (W.alloc (.cells #[.slice a0 f.lk.length c0, .slice a1 f.kn.length c1, .slice a2 f.ow.length c2, .slice a3 f.ln.length c3] 31)) W') := by
    have := debtsOf_any (W.alloc (.cells #[.slice a0 f.lk.length c0, .slice a1 f.kn.length c1, .slice a2 f.ow.length c2, .slice a3 f.ln.length c3] 31)) _ f.lk n H0.out.own.lk.reads (links2 h.lks) (by have := links15 h.lks (by have := h.n6; omega); omega) h.n6
    rw [hl1]
    rw [hl1] at this
    exact this
  have HDM : Hid (∀ i (hi : i < (debtsL n f.lk).length), (debtsL n f.lk)[i].p = ((dp (debtsL n f.lk) i : Nat) : Int)) := fun i hi => by
    have hm := (debts_mem n f.lk _ _).1 (show (⟨(debtsL n f.lk)[i].p, (debtsL n f.lk)[i].q⟩ : DbD) ∈ debtsL n f.lk from List.getElem_mem hi)
    unfold dp
    rw [List.getD_eq_getElem?_getD, List.getElem?_eq_getElem hi]
    simp only [Option.getD_some]
    omega
  have hsz0 : W.heap.size + 1 ≤ (W.alloc (.cells #[.slice a0 f.lk.length c0, .slice a1 f.kn.length c1, .slice a2 f.ow.length c2, .slice a3 f.ln.length c3] 31)).heap.size := by simp
  have HOWL : Hid (f.ow.length = (debtsL n f.lk).length) := hl2
  have hun : (u : Int) < (n : Int) := by omega
  have HL1 : Hid (f.kn.length = n) := hl1
  clear h hb0 hl1 hl3 hl4 hl2
  generalize hds : debtsL n f.lk = ds at *
  have HDS : Hid (debtsL n f.lk = ds) := hds
  clear hds
  go_enter Try.func78, Try.ntmps78
  go_wp2_with fail
  refine CD.out.mono ?_
  rintro e w1 ⟨v1, rfl, ho1, hb1⟩
  obtain ⟨b1, d1, hv1⟩ := ho1.shape
  subst hv1
  have HI0 : Hid (SF w1 B (.slice a0 f.lk.length c0) (.slice a1 f.kn.length c1) (.slice a2 f.ow.length c2) (.slice a3 f.ln.length c3) xs ys zs ⟨f.lk, f.kn, oweTo ds f.ow p u 0, f.ln⟩ n ∧ Bx4 w1 W.heap.size (.slice a0 f.lk.length c0) (.slice a1 f.kn.length c1) (.slice a2 f.ow.length c2) (.slice a3 f.ln.length c3) ∧ Turned (InSS zs) W w1 ∧ OwnDb w1 (W.heap.size + 1) (.slice b1 ds.length d1) ds) := ⟨H0.out.below hb1, HX0.out.below hb1, HT0.out.belowEnd hb1, ho1.mono hsz0⟩
  clear ho1 hb1 CD H0 HX0 HT0 hsz0
  obtain ⟨-, x0, x1, x2, x3, -⟩ := HI0.out.2.1
  go_wp2
  go_loopw [15] (fun i wr => ∃ k : Nat, k ≤ ds.length ∧ i = .int .i64 k ∧ Hid (SF wr B (.slice a0 f.lk.length c0) (.slice a1 f.kn.length c1) (.slice a2 f.ow.length c2) (.slice a3 f.ln.length c3) xs ys zs ⟨f.lk, f.kn, oweTo ds f.ow p u k, f.ln⟩ n ∧ Bx4 wr W.heap.size (.slice a0 f.lk.length c0) (.slice a1 f.kn.length c1) (.slice a2 f.ow.length c2) (.slice a3 f.ln.length c3) ∧ Turned (InSS zs) W wr ∧ OwnDb wr (W.heap.size + 1) (.slice b1 ds.length d1) ds)) (fun i _ => ds.length - (intOf i).toNat)
  case atStart => exact ⟨0, Nat.zero_le _, rfl, HI0⟩
  case round =>
    obtain ⟨k, hk, rfl, HK⟩ := hrel
    by_cases hlt : k < ds.length
    · have hlt' : (k : Int) < (ds.length : Int) := by omega
      obtain ⟨ad, cd, hvd, hcd⟩ := HK.out.2.2.2.reads
      simp only [Value.slice.injEq] at hvd
      obtain ⟨had, -, -⟩ := hvd
      obtain ⟨gd, od, hbd, hgd, hcc⟩ := hcd.resolve_left (fun e => by rw [e] at hlt; exact absurd hlt (Nat.not_lt_zero _))
      obtain ⟨q0, q1⟩ := hcc k hlt
      have hpk := HDM.out k hlt
      rw [hpk] at q0
      rw [hbd] at had
      clear hcc hgd hcd hbd hpk
      subst had
      generalize ds[k].q = qk at *
      have hal : Below wr.heap.size wr (wr.alloc (.cells #[.int .i64 ((dp ds k : Nat) : Int), .int .i64 qk] 99)) := (Below.refl _ wr).alloc (Nat.le_refl _) _
      have HA : Hid (SF (wr.alloc (.cells #[.int .i64 ((dp ds k : Nat) : Int), .int .i64 qk] 99)) B (.slice a0 f.lk.length c0) (.slice a1 f.kn.length c1) (.slice a2 f.ow.length c2) (.slice a3 f.ln.length c3) xs ys zs ⟨f.lk, f.kn, oweTo ds f.ow p u k, f.ln⟩ n ∧ Bx4 (wr.alloc (.cells #[.int .i64 ((dp ds k : Nat) : Int), .int .i64 qk] 99)) W.heap.size (.slice a0 f.lk.length c0) (.slice a1 f.kn.length c1) (.slice a2 f.ow.length c2) (.slice a3 f.ln.length c3) ∧ Turned (InSS zs) W (wr.alloc (.cells #[.int .i64 ((dp ds k : Nat) : Int), .int .i64 qk] 99)) ∧ OwnDb (wr.alloc (.cells #[.int .i64 ((dp ds k : Nat) : Int), .int .i64 qk] 99)) (W.heap.size + 1) (.slice (some ⟨gd, od, none⟩) ds.length d1) ds) := ⟨HK.out.1.below hal, HK.out.2.1.below hal, HK.out.2.2.1.belowEnd hal, HK.out.2.2.2.below hal⟩
      have HNXT : Hid (oweTo ds f.ow p u (k + 1) = if dp ds k = p then setR (oweTo ds f.ow p u k) k u 1 else oweTo ds f.ow p u k) := rfl
      obtain ⟨-, y0, y1, y2, y3, -⟩ := HA.out.2.1
      clear hal HK
      by_cases hp : dp ds k = p
      · rw [if_pos hp] at HNXT
        have d0 : (((dp ds k : Nat) : Int) == (p : Int)) = true := beq_iff_eq.2 (by omega)
        obtain ⟨m1', m2', m3', m4'⟩ := HA.out.1.lens
        have hko : k < (oweTo ds f.ow p u k).length := by simp only at m2'; rw [m2', HDS.out]; exact hlt
        obtain ⟨g, c, gi, ci, hv, r1, r2, r3, r4, -, r6⟩ := HA.out.1.own.ow.cell k u hko (by rw [m4' k hko]; exact hu)
        simp only [Value.slice.injEq] at hv
        obtain ⟨hg2, -, -⟩ := hv
        have hrl := m4' k hko
        simp only at hrl
        rw [hrl] at r1
        have HN : Hid (SF ((wr.alloc (.cells #[.int .i64 ((dp ds k : Nat) : Int), .int .i64 qk] 99)).setCell ⟨gi, u, none⟩ (.int .i64 1)) B (.slice a0 f.lk.length c0) (.slice a1 f.kn.length c1) (.slice a2 f.ow.length c2) (.slice a3 f.ln.length c3) xs ys zs ⟨f.lk, f.kn, setR (oweTo ds f.ow p u k) k u 1, f.ln⟩ n ∧ Bx4 ((wr.alloc (.cells #[.int .i64 ((dp ds k : Nat) : Int), .int .i64 qk] 99)).setCell ⟨gi, u, none⟩ (.int .i64 1)) W.heap.size (.slice a0 f.lk.length c0) (.slice a1 f.kn.length c1) (.slice a2 f.ow.length c2) (.slice a3 f.ln.length c3) ∧ Turned (InSS zs) W ((wr.alloc (.cells #[.int .i64 ((dp ds k : Nat) : Int), .int .i64 qk] 99)).setCell ⟨gi, u, none⟩ (.int .i64 1)) ∧ OwnDb ((wr.alloc (.cells #[.int .i64 ((dp ds k : Nat) : Int), .int .i64 qk] 99)).setCell ⟨gi, u, none⟩ (.int .i64 1)) (W.heap.size + 1) (.slice (some ⟨gd, od, none⟩) ds.length d1) ds) := by
          have hgi := HZL.out gi r4
          refine ⟨⟨ow_inner HA.out.1.own r4 u _ (r6 1), ⟨HA.out.1.num.kn, HA.out.1.num.ow.set (by show k < (debtsL n f.lk).length; rw [HDS.out]; exact hlt) hu (by omega) (by omega), HA.out.1.num.dl, HA.out.1.num.hp, HA.out.1.num.hq⟩, HA.out.1.lks, HA.out.1.n1, HA.out.1.n6, ?_⟩, HA.out.2.1.other (by simp; omega) _, HA.out.2.2.1.set (.inl r4) _, ?_⟩
          · have := HA.out.1.low
            simpa [World.setCell] using this
          · exact rowSame HA.out.2.2.2 (fun b hb => Below.heap_setCell _ _ _ _ (fun e => by have := (World.ownsRow.lt HA.out.2.2.2 b hb).1; simp at e; omega))
        have hkl : (k : Int) < (f.ow.length : Int) := by rw [HOWL.out]; omega
        have hkl2 : (oweTo ds f.ow p u k).length = f.ow.length := by simp only at m2'; rw [m2', HDS.out, HOWL.out]
        clear r4 r6 hp m1' m2' m3' m4' hko hrl HA
        subst hg2
        go_wp2
        go_roundw
        case rel => exact ⟨k + 1, by omega, by go_num, by rw [HNXT.out]; exact HN⟩
        case measure => simp [intOf]; omega
      · rw [if_neg hp] at HNXT
        have d0 : (((dp ds k : Nat) : Int) == (p : Int)) = false := beq_eq_false_iff_ne.2 (by omega)
        clear hp
        go_wp2
        go_roundw
        case rel => exact ⟨k + 1, by omega, by go_num, by rw [HNXT.out]; exact HA⟩
        case measure => simp [intOf]; omega
    · have hlt' : ¬ (k : Int) < (ds.length : Int) := by omega
      obtain rfl : k = ds.length := by omega
      go_wp2
      exact bodyPost_end (v := .tuple #[]) (by simp [results, Try.results78]) rfl ⟨⟨_, rfl⟩, HK.out.1, HK.out.2.2.1⟩
end Go.Proofs.Ytkkamigaolejiax
