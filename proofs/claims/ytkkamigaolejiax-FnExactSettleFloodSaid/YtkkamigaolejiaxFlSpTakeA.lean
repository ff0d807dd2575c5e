/-
  'l6Take' of the model: an Ack.
-/
import Derived.Test.YtkkamigaolejiaxJt
namespace Go.Proofs.Ytkkamigaolejiax
open Go.RowKit
set_option linter.unusedVariables false

theorem SF.knPut {W : World} {B : Nat} {x z l : Value} {a1 : Option Addr} {c1 : Nat} {xs ys zs : List Value} {f : FD} {n : Nat} (h : SF W B x (.slice a1 n c1) z l xs ys zs f n) {i j : Nat} (hi : i < n) (hj : j < n) : ∃ g gi ci, a1 = some ⟨g, 0, none⟩ ∧ W.cell? ⟨g, i, none⟩ = some (.slice (some ⟨gi, 0, none⟩) n ci) ∧ W.cell? ⟨gi, j, none⟩ = some (.int .i64 (atR f.kn i j)) ∧ W.frozen? ⟨gi, j, none⟩ = false ∧ InSS ys gi ∧ g ≠ gi ∧ ∀ v : Int, 0 ≤ v → v ≤ 60 → SF (W.setCell ⟨gi, j, none⟩ (.int .i64 v)) B x (.slice a1 n c1) z l xs ys zs ⟨f.lk, setR f.kn i j v, f.ow, f.ln⟩ n := by
  obtain ⟨hl1, hl2, hl3, hl4⟩ := h.lens
  have hi' : i < f.kn.length := by rw [hl1]; exact hi
  obtain ⟨g, c, gi, ci, hv, q1, q2, q3, q4, q5, q6⟩ := h.own.kn.cell i j hi' (by rw [hl3 i hi']; exact hj)
  simp only [Value.slice.injEq] at hv
  rw [hl3 i hi'] at q1
  refine ⟨g, gi, ci, hv.1, q1, q2, q3, q4, fun e => ?_, fun v v0 v1 => h.setKn q4 hi hj v0 v1 (q6 v)⟩
  obtain ⟨t, ht, htb⟩ := q4
  exact rowsApart h.own.kn.row (h.own.kn.inner t ht) (by decide) gi (by rw [hv.1, e]; rfl) htb
theorem SF.withLine {W : World} {B : Nat} {x y z l l' : Value} {xs ys zs : List Value} {f : FD} {n : Nat} (h : SF W B x y z l xs ys zs f n) {ln : List LtD} (hl : OwnLt W B l' ln) : SF W B x y z l' xs ys zs ⟨f.lk, f.kn, f.ow, ln⟩ n :=
  ⟨⟨h.own.lk, h.own.kn, h.own.ow, hl, h.own.a01, h.own.a02, h.own.a12⟩, h.num.clear ln, h.lks, h.n1, h.n6, h.low⟩

set_option maxRecDepth 100000 in
set_option maxHeartbeats 4000000 in
theorem l6TakeA_any (W : World) (B : Nat) (x y z : Value) (l : Value) (xs ys zs : List Value) (f : FD) (n : Nat) (h : SF W B x y z l xs ys zs f n) (to by1 u r : Nat) (seq : Int) (hto : to < n) (hu : u < n) (hr : ixD (debtsL n f.lk) (to : Int) (by1 : Int) = (r : Int)) (hrm : r < (debtsL n f.lk).length) :
    Calls Try.prog 39 #[.agg #[x, y, z, l], .agg #[.int .i64 (to : Int), .int .i64 (by1 : Int), .int .i64 (u : Int), .int .i64 seq, .bool true]] W fun e W' => e = .returned (.agg #[x, y, z, l]) ∧ SF W' B x y z l xs ys zs (takeA f to u seq r) n ∧ Turned (InKO ys zs) W W' := by
  obtain ⟨hl1, hl2, -, -⟩ := h.lens
  have HLW : Hid (∀ b, InKO ys zs b → b < W.heap.size) := fun b hb => hb.elim (fun e => (h.own.kn.inLt b e).2) (fun e => (h.own.ow.inLt b e).2)
  obtain ⟨a0, c0, hx⟩ := h.own.lk.shape
  obtain ⟨a1, c1, hy⟩ := h.own.kn.shape
  obtain ⟨a2, c2, hz⟩ := h.own.ow.shape
  obtain ⟨a3, c3, hl⟩ := h.own.ln.shape
  rw [hl1] at hy
  rw [hl2] at hz
  subst hx hy hz hl
  have CR0 : ∀ w', Below W.heap.size W w' → Calls Try.prog 50 #[.agg #[.slice a0 f.lk.length c0, .slice a1 n c1, .slice a2 (debtsL n f.lk).length c2, .slice a3 f.ln.length c3], .int .i64 (to : Int), .int .i64 (by1 : Int)] w' fun e W' => e = .returned (.int .i64 (r : Int)) ∧ Below w'.heap.size w' W' := fun w' hb => by
    have := l6Row_any w' _ _ _ _ f (to : Int) (by1 : Int) (h.own.reads.below hb) (by rw [hl1]; exact h.lks) (by rw [hl1]; exact h.n6)
    rw [hl1, hr] at this
    exact this
  have HTA : Hid ((atR f.kn to u = seq → takeA f to u seq r = ⟨f.lk, f.kn, setR f.ow r u 0, f.ln⟩) ∧ (atR f.kn to u ≠ seq → takeA f to u seq r = f)) := ⟨fun e => by unfold takeA; rw [if_pos e], fun e => by unfold takeA; rw [if_neg e]⟩
  have hb1 : Below W.heap.size W (W.alloc (.cells #[.slice a0 f.lk.length c0, .slice a1 n c1, .slice a2 (debtsL n f.lk).length c2, .slice a3 f.ln.length c3] 31)) := (Below.refl _ W).alloc (Nat.le_refl _) _
  obtain ⟨ds, hds⟩ : ∃ ds, ds = debtsL n f.lk := ⟨_, rfl⟩
  rw [← hds] at h hb1 CR0  hrm ⊢
  obtain ⟨m, hm⟩ : ∃ m, m = ds.length := ⟨_, rfl⟩
  rw [← hm] at h hb1 CR0  hrm ⊢
  obtain ⟨k0, hk0⟩ : ∃ k, k = f.lk.length := ⟨_, rfl⟩
  rw [← hk0] at h hb1 CR0 ⊢
  obtain ⟨k3, hk3⟩ : ∃ k, k = f.ln.length := ⟨_, rfl⟩
  rw [← hk3] at h hb1 CR0 ⊢
  have HW : Hid (SF W B (.slice a0 k0 c0) (.slice a1 n c1) (.slice a2 m c2) (.slice a3 k3 c3) xs ys zs f n) := h
  have HDS : Hid (ds = debtsL n f.lk) := hds
  have HM : Hid (m = (debtsL n f.lk).length) := by rw [← hds]; exact hm
  have hb2 : Below W.heap.size W ((W.alloc (.cells #[.slice a0 k0 c0, .slice a1 n c1, .slice a2 m c2, .slice a3 k3 c3] 31)).alloc (.cells #[.int .i64 (to : Int), .int .i64 (by1 : Int), .int .i64 (u : Int), .int .i64 seq, .bool true] 66)) := hb1.alloc (by simp) _
  have hb0 : Below W.heap.size W (((W.alloc (.cells #[.slice a0 k0 c0, .slice a1 n c1, .slice a2 m c2, .slice a3 k3 c3] 31)).alloc (.cells #[.int .i64 (to : Int), .int .i64 (by1 : Int), .int .i64 (u : Int), .int .i64 seq, .bool true] 66)).alloc (.cells #[.slice none 0 0, .slice none 0 0, .slice none 0 0, .slice none 0 0] 31)) := hb2.alloc (by simp; omega) _
  have HX0 : Hid (Bx4 (((W.alloc (.cells #[.slice a0 k0 c0, .slice a1 n c1, .slice a2 m c2, .slice a3 k3 c3] 31)).alloc (.cells #[.int .i64 (to : Int), .int .i64 (by1 : Int), .int .i64 (u : Int), .int .i64 seq, .bool true] 66)).alloc (.cells #[.slice none 0 0, .slice none 0 0, .slice none 0 0, .slice none 0 0] 31)) W.heap.size (.slice a0 k0 c0) (.slice a1 n c1) (.slice a2 m c2) (.slice a3 k3 c3)) := ((Bx4.new W (.slice a0 k0 c0) (.slice a1 n c1) (.slice a2 m c2) (.slice a3 k3 c3) 31).below ((Below.refl _ _).alloc (Nat.le_refl _) _)).below ((Below.refl _ _).alloc (Nat.le_refl _) _)
  have HL0 : Hid (Bx5 (((W.alloc (.cells #[.slice a0 k0 c0, .slice a1 n c1, .slice a2 m c2, .slice a3 k3 c3] 31)).alloc (.cells #[.int .i64 (to : Int), .int .i64 (by1 : Int), .int .i64 (u : Int), .int .i64 seq, .bool true] 66)).alloc (.cells #[.slice none 0 0, .slice none 0 0, .slice none 0 0, .slice none 0 0] 31)) (W.heap.size + 1) (.int .i64 (to : Int)) (.int .i64 (by1 : Int)) (.int .i64 (u : Int)) (.int .i64 seq) (.bool true)) := by
    have := (Bx5.new (W.alloc (.cells #[.slice a0 k0 c0, .slice a1 n c1, .slice a2 m c2, .slice a3 k3 c3] 31)) (.int .i64 (to : Int)) (.int .i64 (by1 : Int)) (.int .i64 (u : Int)) (.int .i64 seq) (.bool true) 66).below ((Below.refl _ _).alloc (Nat.le_refl _) (.cells #[.slice none 0 0, .slice none 0 0, .slice none 0 0, .slice none 0 0] 31))
    exact (show Bx5 _ _ _ _ _ _ _ by simpa using this)
  have HR0 : Hid (Bx4 (((W.alloc (.cells #[.slice a0 k0 c0, .slice a1 n c1, .slice a2 m c2, .slice a3 k3 c3] 31)).alloc (.cells #[.int .i64 (to : Int), .int .i64 (by1 : Int), .int .i64 (u : Int), .int .i64 seq, .bool true] 66)).alloc (.cells #[.slice none 0 0, .slice none 0 0, .slice none 0 0, .slice none 0 0] 31)) (W.heap.size + 1 + 1) (.slice none 0 0) (.slice none 0 0) (.slice none 0 0) (.slice none 0 0)) := by
    have := Bx4.new ((W.alloc (.cells #[.slice a0 k0 c0, .slice a1 n c1, .slice a2 m c2, .slice a3 k3 c3] 31)).alloc (.cells #[.int .i64 (to : Int), .int .i64 (by1 : Int), .int .i64 (u : Int), .int .i64 seq, .bool true] 66)) (.slice none 0 0) (.slice none 0 0) (.slice none 0 0) (.slice none 0 0) 31
    exact (show Bx4 _ _ _ _ _ _ by simpa using this)
  have H0 : Hid (SF (((W.alloc (.cells #[.slice a0 k0 c0, .slice a1 n c1, .slice a2 m c2, .slice a3 k3 c3] 31)).alloc (.cells #[.int .i64 (to : Int), .int .i64 (by1 : Int), .int .i64 (u : Int), .int .i64 seq, .bool true] 66)).alloc (.cells #[.slice none 0 0, .slice none 0 0, .slice none 0 0, .slice none 0 0] 31)) B (.slice a0 k0 c0) (.slice a1 n c1) (.slice a2 m c2) (.slice a3 k3 c3) xs ys zs f n) := h.below hb0
  have HT0 : Hid (Turned (InKO ys zs) W (((W.alloc (.cells #[.slice a0 k0 c0, .slice a1 n c1, .slice a2 m c2, .slice a3 k3 c3] 31)).alloc (.cells #[.int .i64 (to : Int), .int .i64 (by1 : Int), .int .i64 (u : Int), .int .i64 seq, .bool true] 66)).alloc (.cells #[.slice none 0 0, .slice none 0 0, .slice none 0 0, .slice none 0 0] 31))) := Turned.ofBelow hb0
  have hz0 : W.heap.size + 3 ≤ ((((W.alloc (.cells #[.slice a0 k0 c0, .slice a1 n c1, .slice a2 m c2, .slice a3 k3 c3] 31)).alloc (.cells #[.int .i64 (to : Int), .int .i64 (by1 : Int), .int .i64 (u : Int), .int .i64 seq, .bool true] 66)).alloc (.cells #[.slice none 0 0, .slice none 0 0, .slice none 0 0, .slice none 0 0] 31))).heap.size := by simp
  have CR : Hid (Calls Try.prog 50 #[.agg #[.slice a0 k0 c0, .slice a1 n c1, .slice a2 m c2, .slice a3 k3 c3], .int .i64 (to : Int), .int .i64 (by1 : Int)] (((W.alloc (.cells #[.slice a0 k0 c0, .slice a1 n c1, .slice a2 m c2, .slice a3 k3 c3] 31)).alloc (.cells #[.int .i64 (to : Int), .int .i64 (by1 : Int), .int .i64 (u : Int), .int .i64 seq, .bool true] 66)).alloc (.cells #[.slice none 0 0, .slice none 0 0, .slice none 0 0, .slice none 0 0] 31)) fun e W' => e = .returned (.int .i64 (r : Int)) ∧ Below ((((W.alloc (.cells #[.slice a0 k0 c0, .slice a1 n c1, .slice a2 m c2, .slice a3 k3 c3] 31)).alloc (.cells #[.int .i64 (to : Int), .int .i64 (by1 : Int), .int .i64 (u : Int), .int .i64 seq, .bool true] 66)).alloc (.cells #[.slice none 0 0, .slice none 0 0, .slice none 0 0, .slice none 0 0] 31))).heap.size (((W.alloc (.cells #[.slice a0 k0 c0, .slice a1 n c1, .slice a2 m c2, .slice a3 k3 c3] 31)).alloc (.cells #[.int .i64 (to : Int), .int .i64 (by1 : Int), .int .i64 (u : Int), .int .i64 seq, .bool true] 66)).alloc (.cells #[.slice none 0 0, .slice none 0 0, .slice none 0 0, .slice none 0 0] 31)) W') := CR0 _ hb0
  have hrm' : (r : Int) < (m : Int) := by omega
  have hton : (to : Int) < (n : Int) := by omega
  have hun : (u : Int) < (n : Int) := by omega
  clear h hb0 hb1 hb2 CR0 hl1 hl2 hds hm hk0 hk3
  go_enter Try.func39, Try.ntmps39
  generalize hw0 : (((W.alloc (.cells #[.slice a0 k0 c0, .slice a1 n c1, .slice a2 m c2, .slice a3 k3 c3] 31)).alloc (.cells #[.int .i64 (to : Int), .int .i64 (by1 : Int), .int .i64 (u : Int), .int .i64 seq, .bool true] 66)).alloc (.cells #[.slice none 0 0, .slice none 0 0, .slice none 0 0, .slice none 0 0] 31)) = w0 at *
  obtain ⟨-, x0, x1, x2, x3, xf⟩ := HX0.out
  obtain ⟨-, l0, l1, l2, l3, l4, lf⟩ := HL0.out
  go_wp2_with fail
  refine CR.out.mono ?_
  clear hw0 x0 x1 x2 x3 xf l0 l1 l2 l3 l4 lf
  rintro e w1 ⟨rfl, hb1⟩
  have HX1 : Hid (Bx4 w1 W.heap.size (.slice a0 k0 c0) (.slice a1 n c1) (.slice a2 m c2) (.slice a3 k3 c3)) := HX0.out.below hb1
  have HL1 : Hid (Bx5 w1 (W.heap.size + 1) (.int .i64 (to : Int)) (.int .i64 (by1 : Int)) (.int .i64 (u : Int)) (.int .i64 seq) (.bool true)) := HL0.out.below hb1
  have HR1 : Hid (Bx4 w1 (W.heap.size + 1 + 1) (.slice none 0 0) (.slice none 0 0) (.slice none 0 0) (.slice none 0 0)) := HR0.out.below hb1
  have H1 : Hid (SF w1 B (.slice a0 k0 c0) (.slice a1 n c1) (.slice a2 m c2) (.slice a3 k3 c3) xs ys zs f n) := H0.out.below hb1
  have HT1 : Hid (Turned (InKO ys zs) W w1) := HT0.out.below0 hb1
  have hz1 : W.heap.size + 3 ≤ w1.heap.size := Nat.le_trans hz0 hb1.size
  clear hb1 CR HX0 HL0 HR0 H0 HT0 hz0
  obtain ⟨-, x0, x1, x2, x3, xf⟩ := HX1.out
  obtain ⟨-, l0, l1, l2, l3, l4, lf⟩ := HL1.out
  obtain ⟨g1, gi, ci, hg1, r1, r2, r3, r4, r5, r6⟩ := H1.out.knPut hto hu
  obtain ⟨g2, gj, cj, hg2, s1, ⟨oo, s2⟩, s3, s4, s5⟩ := H1.out.owCell (i := r) (by have := HM.out; omega) hu
  have HR6 : Hid (∀ v : Int, 0 ≤ v → v ≤ 60 → SF (w1.setCell ⟨gi, u, none⟩ (.int .i64 v)) B (.slice a0 k0 c0) (.slice a1 n c1) (.slice a2 m c2) (.slice a3 k3 c3) xs ys zs ⟨f.lk, setR f.kn to u v, f.ow, f.ln⟩ n) := r6
  have HS5 : Hid (∀ v : Int, 0 ≤ v → v ≤ 1 → SF (w1.setCell ⟨gj, u, none⟩ (.int .i64 v)) B (.slice a0 k0 c0) (.slice a1 n c1) (.slice a2 m c2) (.slice a3 k3 c3) xs ys zs ⟨f.lk, f.kn, setR f.ow r u v, f.ln⟩ n) := s5
  have HSI : Hid (InSS ys gi ∧ InSS zs gj ∧ g1 ≠ gi) := ⟨r4, s4, r5⟩
  have hgi : gi < W.heap.size := HLW.out gi (.inl r4)
  have hgj : gj < W.heap.size := HLW.out gj (.inr s4)
  clear r4 r5 r6 s4 s5
  generalize hkk : atR f.kn to u = kk at *
  clear hkk
  by_cases he : kk = seq
  · have d0 : (kk == seq) = true := beq_iff_eq.2 he
    have H2 : Hid (SF (w1.setCell ⟨gj, u, none⟩ (.int .i64 0)) B (.slice a0 k0 c0) (.slice a1 n c1) (.slice a2 m c2) (.slice a3 k3 c3) xs ys zs ⟨f.lk, f.kn, setR f.ow r u 0, f.ln⟩ n) := HS5.out 0 (by omega) (by omega)
    have HX2 : Hid (Bx4 (w1.setCell ⟨gj, u, none⟩ (.int .i64 0)) W.heap.size (.slice a0 k0 c0) (.slice a1 n c1) (.slice a2 m c2) (.slice a3 k3 c3)) := HX1.out.other (by simp; omega) _
    have HL2 : Hid (Bx5 (w1.setCell ⟨gj, u, none⟩ (.int .i64 0)) (W.heap.size + 1) (.int .i64 (to : Int)) (.int .i64 (by1 : Int)) (.int .i64 (u : Int)) (.int .i64 seq) (.bool true)) := HL1.out.other (by simp; omega) _
    have HR2 : Hid (Bx4 (w1.setCell ⟨gj, u, none⟩ (.int .i64 0)) (W.heap.size + 1 + 1) (.slice none 0 0) (.slice none 0 0) (.slice none 0 0) (.slice none 0 0)) := HR1.out.other (by simp; omega) _
    have HT2 : Hid (Turned (InKO ys zs) W (w1.setCell ⟨gj, u, none⟩ (.int .i64 0))) := HT1.out.set (.inl (.inr HSI.out.2.1)) _
    have HEQ : Hid (takeA f to u seq r = ⟨f.lk, f.kn, setR f.ow r u 0, f.ln⟩) := HTA.out.1 he
    have hz2 : W.heap.size + 3 ≤ ((w1.setCell ⟨gj, u, none⟩ (.int .i64 0))).heap.size := by simpa [World.setCell] using hz1
    clear he
    subst hg1 hg2
    have HRF : Hid (Bx4 (((((w1.setCell ⟨gj, u, none⟩ (.int .i64 0)).setCell ⟨W.heap.size + 1 + 1, 0, none⟩ (.slice a0 k0 c0)).setCell ⟨W.heap.size + 1 + 1, 1, none⟩ (.slice (some ⟨g1, 0, none⟩) n c1)).setCell ⟨W.heap.size + 1 + 1, 2, none⟩ (.slice (some ⟨g2, 0, none⟩) m c2)).setCell ⟨W.heap.size + 1 + 1, 3, none⟩ (.slice a3 k3 c3)) (W.heap.size + 1 + 1) (.slice a0 k0 c0) (.slice (some ⟨g1, 0, none⟩) n c1) (.slice (some ⟨g2, 0, none⟩) m c2) (.slice a3 k3 c3)) := (((HR2.out.put0 _).put1 _).put2 _).put3 _
    have HBF : Hid (Below W.heap.size (w1.setCell ⟨gj, u, none⟩ (.int .i64 0)) (((((w1.setCell ⟨gj, u, none⟩ (.int .i64 0)).setCell ⟨W.heap.size + 1 + 1, 0, none⟩ (.slice a0 k0 c0)).setCell ⟨W.heap.size + 1 + 1, 1, none⟩ (.slice (some ⟨g1, 0, none⟩) n c1)).setCell ⟨W.heap.size + 1 + 1, 2, none⟩ (.slice (some ⟨g2, 0, none⟩) m c2)).setCell ⟨W.heap.size + 1 + 1, 3, none⟩ (.slice a3 k3 c3))) := ((((Below.refl _ _).setCell (by simp; omega) _).setCell (by simp; omega) _).setCell (by simp; omega) _).setCell (by simp; omega) _
    have HFF : Hid (SF (((((w1.setCell ⟨gj, u, none⟩ (.int .i64 0)).setCell ⟨W.heap.size + 1 + 1, 0, none⟩ (.slice a0 k0 c0)).setCell ⟨W.heap.size + 1 + 1, 1, none⟩ (.slice (some ⟨g1, 0, none⟩) n c1)).setCell ⟨W.heap.size + 1 + 1, 2, none⟩ (.slice (some ⟨g2, 0, none⟩) m c2)).setCell ⟨W.heap.size + 1 + 1, 3, none⟩ (.slice a3 k3 c3)) B (.slice a0 k0 c0) (.slice (some ⟨g1, 0, none⟩) n c1) (.slice (some ⟨g2, 0, none⟩) m c2) (.slice a3 k3 c3) xs ys zs ⟨f.lk, f.kn, setR f.ow r u 0, f.ln⟩ n ∧ Turned (InKO ys zs) W (((((w1.setCell ⟨gj, u, none⟩ (.int .i64 0)).setCell ⟨W.heap.size + 1 + 1, 0, none⟩ (.slice a0 k0 c0)).setCell ⟨W.heap.size + 1 + 1, 1, none⟩ (.slice (some ⟨g1, 0, none⟩) n c1)).setCell ⟨W.heap.size + 1 + 1, 2, none⟩ (.slice (some ⟨g2, 0, none⟩) m c2)).setCell ⟨W.heap.size + 1 + 1, 3, none⟩ (.slice a3 k3 c3))) := ⟨HW.out.keep H2.out HBF.out, HT2.out.keep HBF.out⟩
    obtain ⟨-, y0, y1, y2, y3, yf⟩ := HR2.out
    go_wp2
    clear y0 y1 y2 y3 yf
    obtain ⟨-, y0, y1, y2, y3, yf⟩ := HRF.out
    exact bodyPost_ret (v := .agg #[.slice a0 k0 c0, .slice (some ⟨g1, 0, none⟩) n c1, .slice (some ⟨g2, 0, none⟩) m c2, .slice a3 k3 c3]) (by simp [results, Try.results39, go_sem, y0, y1, y2, y3]) rfl ⟨rfl, by rw [HEQ.out]; exact HFF.out.1, HFF.out.2⟩
  · have d0 : (kk == seq) = false := beq_eq_false_iff_ne.2 he
    have HEQ : Hid (takeA f to u seq r = f) := HTA.out.2 he
    clear he
    subst hg1 hg2
    have HRF : Hid (Bx4 ((((w1.setCell ⟨W.heap.size + 1 + 1, 0, none⟩ (.slice a0 k0 c0)).setCell ⟨W.heap.size + 1 + 1, 1, none⟩ (.slice (some ⟨g1, 0, none⟩) n c1)).setCell ⟨W.heap.size + 1 + 1, 2, none⟩ (.slice (some ⟨g2, 0, none⟩) m c2)).setCell ⟨W.heap.size + 1 + 1, 3, none⟩ (.slice a3 k3 c3)) (W.heap.size + 1 + 1) (.slice a0 k0 c0) (.slice (some ⟨g1, 0, none⟩) n c1) (.slice (some ⟨g2, 0, none⟩) m c2) (.slice a3 k3 c3)) := (((HR1.out.put0 _).put1 _).put2 _).put3 _
    have HBF : Hid (Below W.heap.size w1 ((((w1.setCell ⟨W.heap.size + 1 + 1, 0, none⟩ (.slice a0 k0 c0)).setCell ⟨W.heap.size + 1 + 1, 1, none⟩ (.slice (some ⟨g1, 0, none⟩) n c1)).setCell ⟨W.heap.size + 1 + 1, 2, none⟩ (.slice (some ⟨g2, 0, none⟩) m c2)).setCell ⟨W.heap.size + 1 + 1, 3, none⟩ (.slice a3 k3 c3))) := ((((Below.refl _ _).setCell (by simp; omega) _).setCell (by simp; omega) _).setCell (by simp; omega) _).setCell (by simp; omega) _
    have HFF : Hid (SF ((((w1.setCell ⟨W.heap.size + 1 + 1, 0, none⟩ (.slice a0 k0 c0)).setCell ⟨W.heap.size + 1 + 1, 1, none⟩ (.slice (some ⟨g1, 0, none⟩) n c1)).setCell ⟨W.heap.size + 1 + 1, 2, none⟩ (.slice (some ⟨g2, 0, none⟩) m c2)).setCell ⟨W.heap.size + 1 + 1, 3, none⟩ (.slice a3 k3 c3)) B (.slice a0 k0 c0) (.slice (some ⟨g1, 0, none⟩) n c1) (.slice (some ⟨g2, 0, none⟩) m c2) (.slice a3 k3 c3) xs ys zs f n ∧ Turned (InKO ys zs) W ((((w1.setCell ⟨W.heap.size + 1 + 1, 0, none⟩ (.slice a0 k0 c0)).setCell ⟨W.heap.size + 1 + 1, 1, none⟩ (.slice (some ⟨g1, 0, none⟩) n c1)).setCell ⟨W.heap.size + 1 + 1, 2, none⟩ (.slice (some ⟨g2, 0, none⟩) m c2)).setCell ⟨W.heap.size + 1 + 1, 3, none⟩ (.slice a3 k3 c3))) := ⟨HW.out.keep H1.out HBF.out, HT1.out.keep HBF.out⟩
    obtain ⟨-, y0, y1, y2, y3, yf⟩ := HR1.out
    go_wp2
    clear y0 y1 y2 y3 yf
    obtain ⟨-, y0, y1, y2, y3, yf⟩ := HRF.out
    exact bodyPost_ret (v := .agg #[.slice a0 k0 c0, .slice (some ⟨g1, 0, none⟩) n c1, .slice (some ⟨g2, 0, none⟩) m c2, .slice a3 k3 c3]) (by simp [results, Try.results39, go_sem, y0, y1, y2, y3]) rfl ⟨rfl, by rw [HEQ.out]; exact HFF.out.1, HFF.out.2⟩
end Go.Proofs.Ytkkamigaolejiax
