/-
  'l6Owe' of the model.
-/
import Derived.Test.YtkkamigaolejiaxFlSettleI
import Derived.Test.YtkkamigaolejiaxFlRowS
namespace Go.Proofs.Ytkkamigaolejiax
open Go.RowKit
set_option linter.unusedVariables false

/-- A row of two, in rows that a call owns. -/
theorem rowsCell {w : World} {B : Nat} {ar : Option Addr} {mm cr : Nat} {vr : List Value} {ds : List DbD} (h : OwnSS w B (.slice ar mm cr) vr (ds.map pqL)) (k : Nat) (hk : k < ds.length) : ∃ g g2 c2, ar = some ⟨g, 0, none⟩ ∧ w.cell? ⟨g, k, none⟩ = some (.slice (some ⟨g2, 0, none⟩) 2 c2) ∧ w.cell? ⟨g2, 0, none⟩ = some (.int .i64 ds[k].p) ∧ w.cell? ⟨g2, 1, none⟩ = some (.int .i64 ds[k].q) := by
  have hkv : k < vr.length := by rw [h.len, List.length_map]; exact hk
  have hi := h.inner k hkv
  have e : (ds.map pqL)[k]'(by simpa using hk) = [ds[k].p, ds[k].q] := by rw [List.getElem_map]; rfl
  rw [e] at hi
  obtain ⟨g2, c2, hv2, q0, q1⟩ := own_two hi
  rcases h.row.2 with ⟨-, hn⟩ | ⟨g, cap, cur, hv, -⟩
  · omega
  · have hr := h.row
    rw [hv] at hr
    simp only [Value.slice.injEq] at hv
    exact ⟨g, g2, c2, hv.1, by rw [World.ownsRow.cellAt hr k (by omega), List.getElem?_eq_getElem hkv, hv2], q0, q1⟩

set_option maxRecDepth 100000 in
set_option maxHeartbeats 4000000 in
theorem l6Owe_any (W : World) (B : Nat) (x y z l : Value) (xs ys zs : List Value) (f : FD) (n : Nat) (h : SF W B x y z l xs ys zs f n) (node u : Nat) (nb : Int) (hu : u < n) :
    Calls Try.prog 52 #[.agg #[x, y, z, l], .int .i64 (node : Int), .int .i64 (u : Int), .int .i64 nb] W fun e W' => (∃ v, e = .returned v) ∧ SF W' B x y z l xs ys zs ⟨f.lk, f.kn, oweBut (debtsL n f.lk) f.ow node u nb (debtsL n f.lk).length, f.ln⟩ n ∧ Turned (InSS zs) W W' := by
  obtain ⟨hl1, hl2, hl3, hl4⟩ := h.lens
  obtain ⟨a0, c0, rfl⟩ := h.own.lk.shape
  obtain ⟨a1, c1, rfl⟩ := h.own.kn.shape
  obtain ⟨a2, c2, rfl⟩ := h.own.ow.shape
  obtain ⟨a3, c3, rfl⟩ := h.own.ln.shape
  have hb0 : Below W.heap.size W (W.alloc (.cells #[.slice a0 f.lk.length c0, .slice a1 f.kn.length c1, .slice a2 f.ow.length c2, .slice a3 f.ln.length c3] 31)) := (Below.refl _ W).alloc (Nat.le_refl _) _
  have HX0 : Hid (Bx4 (W.alloc (.cells #[.slice a0 f.lk.length c0, .slice a1 f.kn.length c1, .slice a2 f.ow.length c2, .slice a3 f.ln.length c3] 31)) W.heap.size (.slice a0 f.lk.length c0) (.slice a1 f.kn.length c1) (.slice a2 f.ow.length c2) (.slice a3 f.ln.length c3)) := Bx4.new _ _ _ _ _ _
  have H0 : Hid (SF (W.alloc (.cells #[.slice a0 f.lk.length c0, .slice a1 f.kn.length c1, .slice a2 f.ow.length c2, .slice a3 f.ln.length c3] 31)) B (.slice a0 f.lk.length c0) (.slice a1 f.kn.length c1) (.slice a2 f.ow.length c2) (.slice a3 f.ln.length c3) xs ys zs f n) := h.below hb0
  have HT0 : Hid (Turned (InSS zs) W (W.alloc (.cells #[.slice a0 f.lk.length c0, .slice a1 f.kn.length c1, .slice a2 f.ow.length c2, .slice a3 f.ln.length c3] 31))) := Turned.ofBelow hb0
  have HZL : Hid (∀ b, InSS zs b → b < W.heap.size) := fun b hb => (h.own.ow.inLt b hb).2
  have hd36 := debts36 n f.lk h.n6
  have CD : Hid (Calls Try.prog 38 #[.int .i64 (f.kn.length : Int), .slice a0 f.lk.length c0] (W.alloc (.cells #[.slice a0 f.lk.length c0, .slice a1 f.kn.length c1, .slice a2 f.ow.length c2, .slice a3 f.ln.length c3] 31)) fun e W' => ∃ v' vs, e = .returned v' ∧ OwnSS W' ((W.alloc (.cells #[.slice a0 f.lk.length c0, .slice a1 f.kn.length c1, .slice a2 f.ow.length c2, .slice a3 f.ln.length c3] 31))).heap.size v' vs ((debtsL n f.lk).map pqL) ∧ Below ((W.alloc (.cells #[.slice a0 f.lk.length c0, .slice a1 f.kn.length c1, .slice a2 f.ow.length c2, .slice a3 f.ln.length c3] 31))).heap.size (W.alloc (.cells #[.slice a0 f.lk.length c0, .slice a1 f.kn.length c1, .slice a2 f.ow.length c2, .slice a3 f.ln.length c3] 31)) W') := by
    have := l6Rows_any (W.alloc (.cells #[.slice a0 f.lk.length c0, .slice a1 f.kn.length c1, .slice a2 f.ow.length c2, .slice a3 f.ln.length c3] 31)) _ f.lk n H0.out.own.lk.reads (links2 h.lks) (links15 h.lks (by have := h.n6; omega)) h.n6
    rw [rowsL_debts h.lks] at this
    rw [hl1]
    rw [hl1] at this
    exact this
  have HDM : Hid (∀ i (hi : i < (debtsL n f.lk).length), (debtsL n f.lk)[i].p = ((dp (debtsL n f.lk) i : Nat) : Int) ∧ (debtsL n f.lk)[i].q = ((dq (debtsL n f.lk) i : Nat) : Int)) := fun i hi => by
    obtain ⟨e1, e2, -⟩ := debt_at h.lks i hi
    exact ⟨e1, e2⟩
  have hsz0 : W.heap.size + 1 ≤ ((W.alloc (.cells #[.slice a0 f.lk.length c0, .slice a1 f.kn.length c1, .slice a2 f.ow.length c2, .slice a3 f.ln.length c3] 31))).heap.size := by simp
  have HOWL : Hid (f.ow.length = (debtsL n f.lk).length) := hl2
  have hun : (u : Int) < (n : Int) := by omega
  clear h hb0 hl1 hl3 hl4 hl2
  generalize hds : debtsL n f.lk = ds at *
  have HDS : Hid (debtsL n f.lk = ds) := hds
  clear hds
  go_enter Try.func52, Try.ntmps52
  generalize hw0 : (W.alloc (.cells #[.slice a0 f.lk.length c0, .slice a1 f.kn.length c1, .slice a2 f.ow.length c2, .slice a3 f.ln.length c3] 31)) = w0 at *
  obtain ⟨-, x0, x1, x2, x3, -⟩ := HX0.out
  go_wp2_with fail
  refine CD.out.mono ?_
  clear hw0 x0 x1 x2 x3
  rintro e w1 ⟨v1, vr, rfl, ho1, hb1⟩
  obtain ⟨ar, cr, hv1⟩ := ho1.shape
  rw [List.length_map] at hv1
  obtain ⟨mm, hmm⟩ : ∃ mm, mm = ds.length := ⟨_, rfl⟩
  rw [← hmm] at hv1
  subst hv1
  have HI0 : Hid (SF w1 B (.slice a0 f.lk.length c0) (.slice a1 f.kn.length c1) (.slice a2 f.ow.length c2) (.slice a3 f.ln.length c3) xs ys zs ⟨f.lk, f.kn, oweBut ds f.ow node u nb 0, f.ln⟩ n ∧ Bx4 w1 W.heap.size (.slice a0 f.lk.length c0) (.slice a1 f.kn.length c1) (.slice a2 f.ow.length c2) (.slice a3 f.ln.length c3) ∧ Turned (InSS zs) W w1 ∧ OwnSS w1 (W.heap.size + 1) (.slice ar mm cr) vr (ds.map pqL)) := ⟨H0.out.below hb1, HX0.out.below hb1, HT0.out.belowEnd hb1, ho1.mono hsz0⟩
  have HMM : Hid (mm = ds.length) := hmm
  clear ho1 hb1 CD H0 HX0 HT0 hsz0 hmm
  go_wp2
  go_loopw [17] (fun i wr => ∃ k : Nat, k ≤ mm ∧ i = .int .i64 k ∧ Hid (SF wr B (.slice a0 f.lk.length c0) (.slice a1 f.kn.length c1) (.slice a2 f.ow.length c2) (.slice a3 f.ln.length c3) xs ys zs ⟨f.lk, f.kn, oweBut ds f.ow node u nb k, f.ln⟩ n ∧ Bx4 wr W.heap.size (.slice a0 f.lk.length c0) (.slice a1 f.kn.length c1) (.slice a2 f.ow.length c2) (.slice a3 f.ln.length c3) ∧ Turned (InSS zs) W wr ∧ OwnSS wr (W.heap.size + 1) (.slice ar mm cr) vr (ds.map pqL))) (fun i _ => mm - (intOf i).toNat)
  case atStart => exact ⟨0, Nat.zero_le _, rfl, HI0⟩
  case round =>
    obtain ⟨k, hk, rfl, HK⟩ := hrel
    by_cases hlt : k < mm
    · have hlt' : (k : Int) < (mm : Int) := by omega
      have hkd : k < ds.length := by have := HMM.out; omega
      obtain ⟨g1, g2, cg, har, q0, q1, q2⟩ := rowsCell HK.out.2.2.2 k hkd
      obtain ⟨ep, eq⟩ := HDM.out k hkd
      rw [ep] at q1
      rw [eq] at q2
      have HNXT : Hid (oweBut ds f.ow node u nb (k + 1) = if dp ds k = node ∧ (dq ds k : Int) ≠ nb then setR (oweBut ds f.ow node u nb k) k u 1 else oweBut ds f.ow node u nb k) := rfl
      have HKM : Hid (Hid (SF wr B (.slice a0 f.lk.length c0) (.slice a1 f.kn.length c1) (.slice a2 f.ow.length c2) (.slice a3 f.ln.length c3) xs ys zs ⟨f.lk, f.kn, oweBut ds f.ow node u nb k, f.ln⟩ n ∧ Bx4 wr W.heap.size (.slice a0 f.lk.length c0) (.slice a1 f.kn.length c1) (.slice a2 f.ow.length c2) (.slice a3 f.ln.length c3) ∧ Turned (InSS zs) W wr ∧ OwnSS wr (W.heap.size + 1) (.slice ar mm cr) vr (ds.map pqL))) := HK
      clear ep eq
      generalize dp ds k = pk at *
      generalize dq ds k = qk at *
      obtain ⟨-, x0, x1, x2, x3, -⟩ := HK.out.2.1
      subst har
      by_cases hp : pk = node
      · by_cases hq : (qk : Int) = nb
        · have d0 : ((pk : Int) == (node : Int)) = true := beq_iff_eq.2 (by omega)
          have d1 : ((qk : Int) != nb) = false := by rw [hq]; simp
          have HE : Hid (oweBut ds f.ow node u nb (k + 1) = oweBut ds f.ow node u nb k) := (show _ = _ from by rw [HNXT.out, if_neg (fun e => e.2 hq)])
          clear hp hq HNXT
          go_wp2
          go_roundw
          case rel => exact ⟨k + 1, by omega, by go_num, by rw [HE.out]; exact HK⟩
          case measure => simp [intOf]; omega
        · have d0 : ((pk : Int) == (node : Int)) = true := beq_iff_eq.2 (by omega)
          have d1 : ((qk : Int) != nb) = true := bne_iff_ne.2 hq
          have HE : Hid (oweBut ds f.ow node u nb (k + 1) = setR (oweBut ds f.ow node u nb k) k u 1) := (show _ = _ from by rw [HNXT.out, if_pos ⟨hp, hq⟩])
          obtain ⟨m1', m2', m3', m4'⟩ := HK.out.1.lens
          have hko : k < (oweBut ds f.ow node u nb k).length := by simp only at m2'; rw [m2', HDS.out]; exact hkd
          obtain ⟨g, c, gi, ci, hv, r1, r2, r3, r4, -, r6⟩ := HK.out.1.own.ow.cell k u hko (by rw [m4' k hko]; exact hu)
          simp only [Value.slice.injEq] at hv
          obtain ⟨hg2, -, -⟩ := hv
          have hrl := m4' k hko
          simp only at hrl
          rw [hrl] at r1
          have hgi := HZL.out gi r4
          have HN : Hid (SF (wr.setCell ⟨gi, u, none⟩ (.int .i64 1)) B (.slice a0 f.lk.length c0) (.slice a1 f.kn.length c1) (.slice a2 f.ow.length c2) (.slice a3 f.ln.length c3) xs ys zs ⟨f.lk, f.kn, setR (oweBut ds f.ow node u nb k) k u 1, f.ln⟩ n ∧ Bx4 (wr.setCell ⟨gi, u, none⟩ (.int .i64 1)) W.heap.size (.slice a0 f.lk.length c0) (.slice a1 f.kn.length c1) (.slice a2 f.ow.length c2) (.slice a3 f.ln.length c3) ∧ Turned (InSS zs) W (wr.setCell ⟨gi, u, none⟩ (.int .i64 1)) ∧ OwnSS (wr.setCell ⟨gi, u, none⟩ (.int .i64 1)) (W.heap.size + 1) (.slice (some ⟨g1, 0, none⟩) mm cr) vr (ds.map pqL)) := by
            refine ⟨⟨ow_inner HK.out.1.own r4 u _ (r6 1), ⟨HK.out.1.num.kn, HK.out.1.num.ow.set (by show k < (debtsL n f.lk).length; rw [HDS.out]; exact hkd) hu (by omega) (by omega), HK.out.1.num.dl, HK.out.1.num.hp, HK.out.1.num.hq⟩, HK.out.1.lks, HK.out.1.n1, HK.out.1.n6, ?_⟩, HK.out.2.1.other (by simp; omega) _, HK.out.2.2.1.set (.inl r4) _, HK.out.2.2.2.setCell (by simp; omega) _⟩
            have := HK.out.1.low
            simpa [World.setCell] using this
          have hkl : (k : Int) < (f.ow.length : Int) := by rw [HOWL.out]; omega
          clear hp hq HNXT r4 r6 m1' m2' m3' m4' hko hrl HK HKM
          subst hg2
          go_wp2
          go_roundw
          case rel => exact ⟨k + 1, by omega, by go_num, by rw [HE.out]; exact HN⟩
          case measure => simp [intOf]; omega
      · have d0 : ((pk : Int) == (node : Int)) = false := beq_eq_false_iff_ne.2 (by omega)
        have HE : Hid (oweBut ds f.ow node u nb (k + 1) = oweBut ds f.ow node u nb k) := (show _ = _ from by rw [HNXT.out, if_neg (fun e => hp e.1)])
        clear hp HNXT
        go_wp2
        go_roundw
        case rel => exact ⟨k + 1, by omega, by go_num, by rw [HE.out]; exact HK⟩
        case measure => simp [intOf]; omega
    · have hlt' : ¬ (k : Int) < (mm : Int) := by omega
      obtain rfl : k = mm := by omega
      have HF : Hid (SF wr B (.slice a0 f.lk.length c0) (.slice a1 f.kn.length c1) (.slice a2 f.ow.length c2) (.slice a3 f.ln.length c3) xs ys zs ⟨f.lk, f.kn, oweBut ds f.ow node u nb ds.length, f.ln⟩ n ∧ Turned (InSS zs) W wr) := ⟨by have := HK.out.1; rw [HMM.out] at this; exact this, HK.out.2.2.1⟩
      go_wp2
      exact bodyPost_end (v := .tuple #[]) (by simp [results, Try.results52]) rfl ⟨⟨_, rfl⟩, HF.out.1, HF.out.2⟩
end Go.Proofs.Ytkkamigaolejiax
