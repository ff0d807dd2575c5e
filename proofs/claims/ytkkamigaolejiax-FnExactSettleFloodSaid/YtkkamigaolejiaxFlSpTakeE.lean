/-
  'l6Take' of the model: an entry, the line being empty.
-/
import Derived.Test.YtkkamigaolejiaxFlSpTakeA
namespace Go.Proofs.Ytkkamigaolejiax
open Go.RowKit
set_option linter.unusedVariables false

set_option maxRecDepth 100000 in
set_option maxHeartbeats 4000000 in
theorem l6TakeE_any (W : World) (B : Nat) (x y z : Value) (xs ys zs : List Value) (f : FD) (n : Nat) (h : SF W B x y z (.slice none 0 0) xs ys zs f n) (to by1 u r : Nat) (seq : Int) (hto : to < n) (hu : u < n) (hr : ixD (debtsL n f.lk) (to : Int) (by1 : Int) = (r : Int)) (hrm : r < (debtsL n f.lk).length) (hp : dp (debtsL n f.lk) r = to) (hq : dq (debtsL n f.lk) r = by1) (h0 : 0 ≤ seq) (h1 : seq ≤ 60) :
    Calls Try.prog 39 #[.agg #[x, y, z, .slice none 0 0], .agg #[.int .i64 (to : Int), .int .i64 (by1 : Int), .int .i64 (u : Int), .int .i64 seq, .bool false]] W fun e W' => ∃ l', e = .returned (.agg #[x, y, z, l']) ∧ SF W' B x y z (.slice none 0 0) xs ys zs (takeE (debtsL n f.lk) f to u seq r) n ∧ OwnLt W' W.heap.size l' [⟨(by1 : Int), (to : Int), (u : Int), seq, true⟩] ∧ Turned (InKO ys zs) W W' := by
  obtain ⟨hl1, hl2, -, -⟩ := h.lens
  have HLW : Hid (∀ b, InKO ys zs b → b < W.heap.size) := fun b hb => hb.elim (fun e => (h.own.kn.inLt b e).2) (fun e => (h.own.ow.inLt b e).2)
  obtain ⟨a0, c0, hx⟩ := h.own.lk.shape
  obtain ⟨a1, c1, hy⟩ := h.own.kn.shape
  obtain ⟨a2, c2, hz⟩ := h.own.ow.shape
  rw [hl1] at hy
  rw [hl2] at hz
  subst hx hy hz
  have CR0 : ∀ w', Below W.heap.size W w' → Calls Try.prog 50 #[.agg #[.slice a0 f.lk.length c0, .slice a1 n c1, .slice a2 (debtsL n f.lk).length c2, .slice none 0 0], .int .i64 (to : Int), .int .i64 (by1 : Int)] w' fun e W' => e = .returned (.int .i64 (r : Int)) ∧ Below w'.heap.size w' W' := fun w' hb => by
    have := l6Row_any w' _ _ _ _ f (to : Int) (by1 : Int) (h.own.reads.below hb) (by rw [hl1]; exact h.lks) (by rw [hl1]; exact h.n6)
    rw [hl1, hr] at this
    exact this
  have HTE : Hid ((atR f.kn to u < seq → takeE (debtsL n f.lk) f to u seq r = ⟨f.lk, setR f.kn to u seq, setR (oweBut (debtsL n f.lk) f.ow to u (by1 : Int) (debtsL n f.lk).length) r u 0, f.ln⟩) ∧ (atR f.kn to u = seq → takeE (debtsL n f.lk) f to u seq r = ⟨f.lk, f.kn, setR f.ow r u 0, f.ln⟩) ∧ (seq < atR f.kn to u → takeE (debtsL n f.lk) f to u seq r = ⟨f.lk, f.kn, setR f.ow r u 1, f.ln⟩)) := by
    refine ⟨fun e => ?_, fun e => ?_, fun e => ?_⟩
    · unfold takeE
      rw [if_pos e, owe_same h.lks h.num.ow hu hrm hp hq]
    · unfold takeE
      rw [if_neg (by omega), if_neg (by omega)]
    · unfold takeE
      rw [if_neg (by omega), if_pos e]
  have hb1 : Below W.heap.size W (W.alloc (.cells #[.slice a0 f.lk.length c0, .slice a1 n c1, .slice a2 (debtsL n f.lk).length c2, .slice none 0 0] 31)) := (Below.refl _ W).alloc (Nat.le_refl _) _
  obtain ⟨ds, hds⟩ : ∃ ds, ds = debtsL n f.lk := ⟨_, rfl⟩
  rw [← hds] at h hb1 CR0 HTE hrm ⊢
  obtain ⟨m, hm⟩ : ∃ m, m = ds.length := ⟨_, rfl⟩
  rw [← hm] at h hb1 CR0 HTE hrm ⊢
  obtain ⟨k0, hk0⟩ : ∃ k, k = f.lk.length := ⟨_, rfl⟩
  rw [← hk0] at h hb1 CR0 ⊢
  have HW : Hid (SF W B (.slice a0 k0 c0) (.slice a1 n c1) (.slice a2 m c2) (.slice none 0 0) xs ys zs f n) := h
  have HDS : Hid (ds = debtsL n f.lk) := hds
  have HM : Hid (m = (debtsL n f.lk).length) := by rw [← hds]; exact hm
  have hb2 : Below W.heap.size W ((W.alloc (.cells #[.slice a0 k0 c0, .slice a1 n c1, .slice a2 m c2, .slice none 0 0] 31)).alloc (.cells #[.int .i64 (to : Int), .int .i64 (by1 : Int), .int .i64 (u : Int), .int .i64 seq, .bool false] 66)) := hb1.alloc (by simp) _
  have hb0 : Below W.heap.size W (((W.alloc (.cells #[.slice a0 k0 c0, .slice a1 n c1, .slice a2 m c2, .slice none 0 0] 31)).alloc (.cells #[.int .i64 (to : Int), .int .i64 (by1 : Int), .int .i64 (u : Int), .int .i64 seq, .bool false] 66)).alloc (.cells #[.slice none 0 0, .slice none 0 0, .slice none 0 0, .slice none 0 0] 31)) := hb2.alloc (by simp; omega) _
  have HX0 : Hid (Bx4 (((W.alloc (.cells #[.slice a0 k0 c0, .slice a1 n c1, .slice a2 m c2, .slice none 0 0] 31)).alloc (.cells #[.int .i64 (to : Int), .int .i64 (by1 : Int), .int .i64 (u : Int), .int .i64 seq, .bool false] 66)).alloc (.cells #[.slice none 0 0, .slice none 0 0, .slice none 0 0, .slice none 0 0] 31)) W.heap.size (.slice a0 k0 c0) (.slice a1 n c1) (.slice a2 m c2) (.slice none 0 0)) := ((Bx4.new W (.slice a0 k0 c0) (.slice a1 n c1) (.slice a2 m c2) (.slice none 0 0) 31).below ((Below.refl _ _).alloc (Nat.le_refl _) _)).below ((Below.refl _ _).alloc (Nat.le_refl _) _)
  have HL0 : Hid (Bx5 (((W.alloc (.cells #[.slice a0 k0 c0, .slice a1 n c1, .slice a2 m c2, .slice none 0 0] 31)).alloc (.cells #[.int .i64 (to : Int), .int .i64 (by1 : Int), .int .i64 (u : Int), .int .i64 seq, .bool false] 66)).alloc (.cells #[.slice none 0 0, .slice none 0 0, .slice none 0 0, .slice none 0 0] 31)) (W.heap.size + 1) (.int .i64 (to : Int)) (.int .i64 (by1 : Int)) (.int .i64 (u : Int)) (.int .i64 seq) (.bool false)) := by
    have := (Bx5.new (W.alloc (.cells #[.slice a0 k0 c0, .slice a1 n c1, .slice a2 m c2, .slice none 0 0] 31)) (.int .i64 (to : Int)) (.int .i64 (by1 : Int)) (.int .i64 (u : Int)) (.int .i64 seq) (.bool false) 66).below ((Below.refl _ _).alloc (Nat.le_refl _) (.cells #[.slice none 0 0, .slice none 0 0, .slice none 0 0, .slice none 0 0] 31))
    exact (show Bx5 _ _ _ _ _ _ _ by simpa using this)
  have HR0 : Hid (Bx4 (((W.alloc (.cells #[.slice a0 k0 c0, .slice a1 n c1, .slice a2 m c2, .slice none 0 0] 31)).alloc (.cells #[.int .i64 (to : Int), .int .i64 (by1 : Int), .int .i64 (u : Int), .int .i64 seq, .bool false] 66)).alloc (.cells #[.slice none 0 0, .slice none 0 0, .slice none 0 0, .slice none 0 0] 31)) (W.heap.size + 1 + 1) (.slice none 0 0) (.slice none 0 0) (.slice none 0 0) (.slice none 0 0)) := by
    have := Bx4.new ((W.alloc (.cells #[.slice a0 k0 c0, .slice a1 n c1, .slice a2 m c2, .slice none 0 0] 31)).alloc (.cells #[.int .i64 (to : Int), .int .i64 (by1 : Int), .int .i64 (u : Int), .int .i64 seq, .bool false] 66)) (.slice none 0 0) (.slice none 0 0) (.slice none 0 0) (.slice none 0 0) 31
    exact (show Bx4 _ _ _ _ _ _ by simpa using this)
  have H0 : Hid (SF (((W.alloc (.cells #[.slice a0 k0 c0, .slice a1 n c1, .slice a2 m c2, .slice none 0 0] 31)).alloc (.cells #[.int .i64 (to : Int), .int .i64 (by1 : Int), .int .i64 (u : Int), .int .i64 seq, .bool false] 66)).alloc (.cells #[.slice none 0 0, .slice none 0 0, .slice none 0 0, .slice none 0 0] 31)) B (.slice a0 k0 c0) (.slice a1 n c1) (.slice a2 m c2) (.slice none 0 0) xs ys zs f n) := h.below hb0
  have HT0 : Hid (Turned (InKO ys zs) W (((W.alloc (.cells #[.slice a0 k0 c0, .slice a1 n c1, .slice a2 m c2, .slice none 0 0] 31)).alloc (.cells #[.int .i64 (to : Int), .int .i64 (by1 : Int), .int .i64 (u : Int), .int .i64 seq, .bool false] 66)).alloc (.cells #[.slice none 0 0, .slice none 0 0, .slice none 0 0, .slice none 0 0] 31))) := Turned.ofBelow hb0
  have hz0 : W.heap.size + 3 ≤ ((((W.alloc (.cells #[.slice a0 k0 c0, .slice a1 n c1, .slice a2 m c2, .slice none 0 0] 31)).alloc (.cells #[.int .i64 (to : Int), .int .i64 (by1 : Int), .int .i64 (u : Int), .int .i64 seq, .bool false] 66)).alloc (.cells #[.slice none 0 0, .slice none 0 0, .slice none 0 0, .slice none 0 0] 31))).heap.size := by simp
  have CR : Hid (Calls Try.prog 50 #[.agg #[.slice a0 k0 c0, .slice a1 n c1, .slice a2 m c2, .slice none 0 0], .int .i64 (to : Int), .int .i64 (by1 : Int)] (((W.alloc (.cells #[.slice a0 k0 c0, .slice a1 n c1, .slice a2 m c2, .slice none 0 0] 31)).alloc (.cells #[.int .i64 (to : Int), .int .i64 (by1 : Int), .int .i64 (u : Int), .int .i64 seq, .bool false] 66)).alloc (.cells #[.slice none 0 0, .slice none 0 0, .slice none 0 0, .slice none 0 0] 31)) fun e W' => e = .returned (.int .i64 (r : Int)) ∧ Below ((((W.alloc (.cells #[.slice a0 k0 c0, .slice a1 n c1, .slice a2 m c2, .slice none 0 0] 31)).alloc (.cells #[.int .i64 (to : Int), .int .i64 (by1 : Int), .int .i64 (u : Int), .int .i64 seq, .bool false] 66)).alloc (.cells #[.slice none 0 0, .slice none 0 0, .slice none 0 0, .slice none 0 0] 31))).heap.size (((W.alloc (.cells #[.slice a0 k0 c0, .slice a1 n c1, .slice a2 m c2, .slice none 0 0] 31)).alloc (.cells #[.int .i64 (to : Int), .int .i64 (by1 : Int), .int .i64 (u : Int), .int .i64 seq, .bool false] 66)).alloc (.cells #[.slice none 0 0, .slice none 0 0, .slice none 0 0, .slice none 0 0] 31)) W') := CR0 _ hb0
  have hrm' : (r : Int) < (m : Int) := by omega
  have hton : (to : Int) < (n : Int) := by omega
  have hun : (u : Int) < (n : Int) := by omega
  clear h hb0 hb1 hb2 CR0 hl1 hl2 hds hm hk0
  go_enter Try.func39, Try.ntmps39
  generalize hw0 : (((W.alloc (.cells #[.slice a0 k0 c0, .slice a1 n c1, .slice a2 m c2, .slice none 0 0] 31)).alloc (.cells #[.int .i64 (to : Int), .int .i64 (by1 : Int), .int .i64 (u : Int), .int .i64 seq, .bool false] 66)).alloc (.cells #[.slice none 0 0, .slice none 0 0, .slice none 0 0, .slice none 0 0] 31)) = w0 at *
  obtain ⟨-, x0, x1, x2, x3, xf⟩ := HX0.out
  obtain ⟨-, l0, l1, l2, l3, l4, lf⟩ := HL0.out
  go_wp2_with fail
  refine CR.out.mono ?_
  clear hw0 x0 x1 x2 x3 xf l0 l1 l2 l3 l4 lf
  rintro e w1 ⟨rfl, hb1⟩
  have HX1 : Hid (Bx4 w1 W.heap.size (.slice a0 k0 c0) (.slice a1 n c1) (.slice a2 m c2) (.slice none 0 0)) := HX0.out.below hb1
  have HL1 : Hid (Bx5 w1 (W.heap.size + 1) (.int .i64 (to : Int)) (.int .i64 (by1 : Int)) (.int .i64 (u : Int)) (.int .i64 seq) (.bool false)) := HL0.out.below hb1
  have HR1 : Hid (Bx4 w1 (W.heap.size + 1 + 1) (.slice none 0 0) (.slice none 0 0) (.slice none 0 0) (.slice none 0 0)) := HR0.out.below hb1
  have H1 : Hid (SF w1 B (.slice a0 k0 c0) (.slice a1 n c1) (.slice a2 m c2) (.slice none 0 0) xs ys zs f n) := H0.out.below hb1
  have HT1 : Hid (Turned (InKO ys zs) W w1) := HT0.out.below0 hb1
  have hz1 : W.heap.size + 3 ≤ w1.heap.size := Nat.le_trans hz0 hb1.size
  clear hb1 CR HX0 HL0 HR0 H0 HT0 hz0
  obtain ⟨-, x0, x1, x2, x3, xf⟩ := HX1.out
  obtain ⟨-, l0, l1, l2, l3, l4, lf⟩ := HL1.out
  obtain ⟨g1, gi, ci, hg1, r1, r2, r3, r4, r5, r6⟩ := H1.out.knPut hto hu
  obtain ⟨g2, gj, cj, hg2, s1, ⟨oo, s2⟩, s3, s4, s5⟩ := H1.out.owCell (i := r) (by have := HM.out; omega) hu
  have HR6 : Hid (∀ v : Int, 0 ≤ v → v ≤ 60 → SF (w1.setCell ⟨gi, u, none⟩ (.int .i64 v)) B (.slice a0 k0 c0) (.slice a1 n c1) (.slice a2 m c2) (.slice none 0 0) xs ys zs ⟨f.lk, setR f.kn to u v, f.ow, f.ln⟩ n) := r6
  have HS5 : Hid (∀ v : Int, 0 ≤ v → v ≤ 1 → SF (w1.setCell ⟨gj, u, none⟩ (.int .i64 v)) B (.slice a0 k0 c0) (.slice a1 n c1) (.slice a2 m c2) (.slice none 0 0) xs ys zs ⟨f.lk, f.kn, setR f.ow r u v, f.ln⟩ n) := s5
  have HSI : Hid (InSS ys gi ∧ InSS zs gj ∧ g1 ≠ gi) := ⟨r4, s4, r5⟩
  have hgi : gi < W.heap.size := HLW.out gi (.inl r4)
  have hgj : gj < W.heap.size := HLW.out gj (.inr s4)
  clear r4 r5 r6 s4 s5
  generalize hkk : atR f.kn to u = kk at *
  clear hkk
  rcases Int.lt_trichotomy kk seq with hcase | hcase | hcase
  · have HEQ : Hid (takeE ds f to u seq r = ⟨f.lk, setR f.kn to u seq, setR (oweBut ds f.ow to u (by1 : Int) m) r u 0, f.ln⟩) := HTE.out.1 hcase
    subst hg1 hg2
    have H2 : Hid (SF ((w1.setCell ⟨gi, u, none⟩ (.int .i64 seq)).drew) B (.slice a0 k0 c0) (.slice (some ⟨g1, 0, none⟩) n c1) (.slice (some ⟨g2, 0, none⟩) m c2) (.slice none 0 0) xs ys zs ⟨f.lk, setR f.kn to u seq, f.ow, f.ln⟩ n) := (HR6.out seq h0 h1).below (Below.refl _ _).drew
    have HX2 : Hid (Bx4 ((w1.setCell ⟨gi, u, none⟩ (.int .i64 seq)).drew) W.heap.size (.slice a0 k0 c0) (.slice (some ⟨g1, 0, none⟩) n c1) (.slice (some ⟨g2, 0, none⟩) m c2) (.slice none 0 0)) := (HX1.out.other (p := ⟨gi, u, none⟩) (by simp; omega) (.int .i64 seq)).below (Below.refl _ _).drew
    have HL2 : Hid (Bx5 ((w1.setCell ⟨gi, u, none⟩ (.int .i64 seq)).drew) (W.heap.size + 1) (.int .i64 (to : Int)) (.int .i64 (by1 : Int)) (.int .i64 (u : Int)) (.int .i64 seq) (.bool false)) := (HL1.out.other (p := ⟨gi, u, none⟩) (by simp; omega) (.int .i64 seq)).below (Below.refl _ _).drew
    have HR2 : Hid (Bx4 ((w1.setCell ⟨gi, u, none⟩ (.int .i64 seq)).drew) (W.heap.size + 1 + 1) (.slice none 0 0) (.slice none 0 0) (.slice none 0 0) (.slice none 0 0)) := (HR1.out.other (p := ⟨gi, u, none⟩) (by simp; omega) (.int .i64 seq)).below (Below.refl _ _).drew
    have HT2 : Hid (Turned (InKO ys zs) W ((w1.setCell ⟨gi, u, none⟩ (.int .i64 seq)).drew)) := (HT1.out.set (p := ⟨gi, u, none⟩) (.inl (.inl HSI.out.1)) (.int .i64 seq)).below0 (Below.refl _ _).drew
    have HRW : Hid (((w1.setCell ⟨gi, u, none⟩ (.int .i64 seq)).drew).cell? ⟨g1, to, none⟩ = some (.slice (some ⟨gi, 0, none⟩) n ci)) := (cellOther w1 (p := ⟨gi, u, none⟩) (q := ⟨g1, to, none⟩) HSI.out.2.2 (.int .i64 seq)).trans r1
    have HS0 : Hid (w1.drew.cell? ⟨W.heap.size, 1, none⟩ = some (.slice (some ⟨g1, 0, none⟩) n c1) ∧ w1.drew.cell? ⟨W.heap.size + 1, 0, none⟩ = some (.int .i64 (to : Int)) ∧ w1.drew.cell? ⟨g1, to, none⟩ = some (.slice (some ⟨gi, 0, none⟩) n ci) ∧ w1.drew.cell? ⟨W.heap.size + 1, 3, none⟩ = some (.int .i64 seq)) := ⟨x1, l0, r1, l3⟩
    have HS1 : Hid (((w1.setCell ⟨gi, u, none⟩ (.int .i64 seq)).drew).cell? ⟨W.heap.size, 1, none⟩ = some (.slice (some ⟨g1, 0, none⟩) n c1) ∧ ((w1.setCell ⟨gi, u, none⟩ (.int .i64 seq)).drew).cell? ⟨W.heap.size + 1, 0, none⟩ = some (.int .i64 (to : Int)) ∧ ((w1.setCell ⟨gi, u, none⟩ (.int .i64 seq)).drew).cell? ⟨g1, to, none⟩ = some (.slice (some ⟨gi, 0, none⟩) n ci) ∧ ((w1.setCell ⟨gi, u, none⟩ (.int .i64 seq)).drew).cell? ⟨W.heap.size + 1, 3, none⟩ = some (.int .i64 seq)) := ⟨HX2.out.c1, HL2.out.c0, HRW.out, HL2.out.c3⟩
    go_wp2
    go_region_held3 (fun w' => w'.cell? ⟨W.heap.size, 1, none⟩ = some (.slice (some ⟨g1, 0, none⟩) n c1) ∧ w'.cell? ⟨W.heap.size + 1, 0, none⟩ = some (.int .i64 (to : Int)) ∧ w'.cell? ⟨g1, to, none⟩ = some (.slice (some ⟨gi, 0, none⟩) n ci) ∧ w'.cell? ⟨W.heap.size + 1, 3, none⟩ = some (.int .i64 seq)) (first | exact HS1.out | exact HS0.out) (fail)
    clear x0 x1 x2 x3 xf l0 l1 l2 l3 l4 lf r1 r2 r3 s1 s2 s3 HS0 HS1 HRW HX1 HL1 HR1 H1 HT1 HR6 HS5 hcase
    generalize ((w1.setCell ⟨gi, u, none⟩ (.int .i64 seq)).drew) = w2 at *
    obtain ⟨-, x0, x1, x2, x3, xf⟩ := HX2.out
    obtain ⟨-, l0, l1, l2, l3, l4, lf⟩ := HL2.out
    have CO : Hid (Calls Try.prog 52 #[.agg #[.slice a0 k0 c0, .slice (some ⟨g1, 0, none⟩) n c1, .slice (some ⟨g2, 0, none⟩) m c2, .slice none 0 0], .int .i64 (to : Int), .int .i64 (u : Int), .int .i64 (by1 : Int)] w2 fun e W' => (∃ v, e = .returned v) ∧ SF W' B (.slice a0 k0 c0) (.slice (some ⟨g1, 0, none⟩) n c1) (.slice (some ⟨g2, 0, none⟩) m c2) (.slice none 0 0) xs ys zs ⟨f.lk, setR f.kn to u seq, (oweBut ds f.ow to u (by1 : Int) m), f.ln⟩ n ∧ Turned (InSS zs) w2 W') := by
      have h9 := l6Owe_any w2 B _ _ _ _ xs ys zs _ n H2.out to u (by1 : Int) hu
      simp only at h9
      rw [← HM.out, ← HDS.out] at h9
      exact h9
    go_wp2_with fail
    refine CO.out.mono ?_
    clear x0 x1 x2 x3 xf l0 l1 l2 l3 l4 lf
    rintro e w3 ⟨⟨v3, rfl⟩, h3, ht3⟩
    have H3 : Hid (SF w3 B (.slice a0 k0 c0) (.slice (some ⟨g1, 0, none⟩) n c1) (.slice (some ⟨g2, 0, none⟩) m c2) (.slice none 0 0) xs ys zs ⟨f.lk, setR f.kn to u seq, (oweBut ds f.ow to u (by1 : Int) m), f.ln⟩ n) := h3
    have HX3 : Hid (Bx4 w3 W.heap.size (.slice a0 k0 c0) (.slice (some ⟨g1, 0, none⟩) n c1) (.slice (some ⟨g2, 0, none⟩) m c2) (.slice none 0 0)) := HX2.out.turned ht3 (fun hb => by have := HLW.out _ (.inr hb); omega)
    have HL3 : Hid (Bx5 w3 (W.heap.size + 1) (.int .i64 (to : Int)) (.int .i64 (by1 : Int)) (.int .i64 (u : Int)) (.int .i64 seq) (.bool false)) := HL2.out.turned ht3 (fun hb => by have := HLW.out _ (.inr hb); omega)
    have HR3 : Hid (Bx4 w3 (W.heap.size + 1 + 1) (.slice none 0 0) (.slice none 0 0) (.slice none 0 0) (.slice none 0 0)) := HR2.out.turned ht3 (fun hb => by have := HLW.out _ (.inr hb); omega)
    have HT3 : Hid (Turned (InKO ys zs) W w3) := HT2.out.trans (ht3.mono fun b hb => .inr hb)
    clear h3 ht3 H2 HX2 HL2 HR2 HT2 CO
    obtain ⟨g', gk, ck, hg', s1, ⟨oo2, s2⟩, s3, s4, s5⟩ := H3.out.owCell (i := r) (by have := HM.out; simp only; omega) hu
    simp only [Option.some.injEq, Addr.mk.injEq, and_true] at hg'
    subst hg'
    have hgk : gk < W.heap.size := HLW.out gk (.inr s4)
    have H4 : Hid (SF (w3.setCell ⟨gk, u, none⟩ (.int .i64 0)) B (.slice a0 k0 c0) (.slice (some ⟨g1, 0, none⟩) n c1) (.slice (some ⟨g2, 0, none⟩) m c2) (.slice none 0 0) xs ys zs ⟨f.lk, setR f.kn to u seq, setR (oweBut ds f.ow to u (by1 : Int) m) r u 0, f.ln⟩ n) := s5 0 (by omega) (by omega)
    have HX4 : Hid (Bx4 (w3.setCell ⟨gk, u, none⟩ (.int .i64 0)) W.heap.size (.slice a0 k0 c0) (.slice (some ⟨g1, 0, none⟩) n c1) (.slice (some ⟨g2, 0, none⟩) m c2) (.slice none 0 0)) := HX3.out.other (by simp; omega) _
    have HL4 : Hid (Bx5 (w3.setCell ⟨gk, u, none⟩ (.int .i64 0)) (W.heap.size + 1) (.int .i64 (to : Int)) (.int .i64 (by1 : Int)) (.int .i64 (u : Int)) (.int .i64 seq) (.bool false)) := HL3.out.other (by simp; omega) _
    have HR4 : Hid (Bx4 (w3.setCell ⟨gk, u, none⟩ (.int .i64 0)) (W.heap.size + 1 + 1) (.slice none 0 0) (.slice none 0 0) (.slice none 0 0) (.slice none 0 0)) := HR3.out.other (by simp; omega) _
    have HT4 : Hid (Turned (InKO ys zs) W (w3.setCell ⟨gk, u, none⟩ (.int .i64 0))) := HT3.out.set (.inl (.inr s4)) _
    obtain ⟨-, x0, x1, x2, x3, xf⟩ := HX3.out
    obtain ⟨-, l0, l1, l2, l3, l4, lf⟩ := HL3.out
    obtain ⟨-, X0, X1, X2, X3, XF⟩ := HX4.out
    obtain ⟨-, L0, L1, L2, L3, L4, LF⟩ := HL4.out
    clear s4 s5 HX3 HL3 HR3 H3 HT3
    go_wp2_with fail
    refine (l6Write_nil _ a0 (some ⟨g1, 0, none⟩) (some ⟨g2, 0, none⟩) k0 n m c0 c1 c2 ⟨(by1 : Int), (to : Int), (u : Int), seq, true⟩).mono ?_
    clear x0 x1 x2 x3 xf l0 l1 l2 l3 l4 lf X0 X1 X2 X3 XF L0 L1 L2 L3 L4 LF
    rintro e w9 ⟨l9, rfl, ho9, hb9⟩
    obtain ⟨a9, c9, hv9⟩ := OwnLt.shape ho9
    replace hv9 : l9 = .slice a9 1 c9 := hv9
    subst hv9
    have HR9 : Hid (Bx4 w9 (W.heap.size + 1 + 1) (.slice none 0 0) (.slice none 0 0) (.slice none 0 0) (.slice none 0 0)) := HR4.out.below hb9
    have hz9 : W.heap.size + 3 ≤ w9.heap.size := by have := HR9.out.lt; omega
    have HO9 : Hid (OwnLt w9 (W.heap.size + 3) (.slice a9 1 c9) [⟨(by1 : Int), (to : Int), (u : Int), seq, true⟩]) := OwnLt.mono ho9 (by have := HR4.out.lt; omega)
    have HH9 : Hid (SF w9 B (.slice a0 k0 c0) (.slice (some ⟨g1, 0, none⟩) n c1) (.slice (some ⟨g2, 0, none⟩) m c2) (.slice none 0 0) xs ys zs ⟨f.lk, setR f.kn to u seq, setR (oweBut ds f.ow to u (by1 : Int) m) r u 0, f.ln⟩ n ∧ Turned (InKO ys zs) W w9) := ⟨H4.out.below hb9, HT4.out.below0 hb9⟩
    clear ho9 hb9 HR4 H4 HT4
    have HRF : Hid (Bx4 ((((w9.setCell ⟨W.heap.size + 1 + 1, 0, none⟩ (.slice a0 k0 c0)).setCell ⟨W.heap.size + 1 + 1, 1, none⟩ (.slice (some ⟨g1, 0, none⟩) n c1)).setCell ⟨W.heap.size + 1 + 1, 2, none⟩ (.slice (some ⟨g2, 0, none⟩) m c2)).setCell ⟨W.heap.size + 1 + 1, 3, none⟩ (.slice a9 1 c9)) (W.heap.size + 1 + 1) (.slice a0 k0 c0) (.slice (some ⟨g1, 0, none⟩) n c1) (.slice (some ⟨g2, 0, none⟩) m c2) (.slice a9 1 c9)) := (((HR9.out.put0 _).put1 _).put2 _).put3 _
    have HBF : Hid (Below W.heap.size w9 ((((w9.setCell ⟨W.heap.size + 1 + 1, 0, none⟩ (.slice a0 k0 c0)).setCell ⟨W.heap.size + 1 + 1, 1, none⟩ (.slice (some ⟨g1, 0, none⟩) n c1)).setCell ⟨W.heap.size + 1 + 1, 2, none⟩ (.slice (some ⟨g2, 0, none⟩) m c2)).setCell ⟨W.heap.size + 1 + 1, 3, none⟩ (.slice a9 1 c9))) := ((((Below.refl _ _).setCell (by simp; omega) _).setCell (by simp; omega) _).setCell (by simp; omega) _).setCell (by simp; omega) _
    have HFF : Hid (SF ((((w9.setCell ⟨W.heap.size + 1 + 1, 0, none⟩ (.slice a0 k0 c0)).setCell ⟨W.heap.size + 1 + 1, 1, none⟩ (.slice (some ⟨g1, 0, none⟩) n c1)).setCell ⟨W.heap.size + 1 + 1, 2, none⟩ (.slice (some ⟨g2, 0, none⟩) m c2)).setCell ⟨W.heap.size + 1 + 1, 3, none⟩ (.slice a9 1 c9)) B (.slice a0 k0 c0) (.slice (some ⟨g1, 0, none⟩) n c1) (.slice (some ⟨g2, 0, none⟩) m c2) (.slice none 0 0) xs ys zs ⟨f.lk, setR f.kn to u seq, setR (oweBut ds f.ow to u (by1 : Int) m) r u 0, f.ln⟩ n ∧ Turned (InKO ys zs) W ((((w9.setCell ⟨W.heap.size + 1 + 1, 0, none⟩ (.slice a0 k0 c0)).setCell ⟨W.heap.size + 1 + 1, 1, none⟩ (.slice (some ⟨g1, 0, none⟩) n c1)).setCell ⟨W.heap.size + 1 + 1, 2, none⟩ (.slice (some ⟨g2, 0, none⟩) m c2)).setCell ⟨W.heap.size + 1 + 1, 3, none⟩ (.slice a9 1 c9))) := ⟨HW.out.keep HH9.out.1 HBF.out, HH9.out.2.keep HBF.out⟩
    have HOF : Hid (OwnLt ((((w9.setCell ⟨W.heap.size + 1 + 1, 0, none⟩ (.slice a0 k0 c0)).setCell ⟨W.heap.size + 1 + 1, 1, none⟩ (.slice (some ⟨g1, 0, none⟩) n c1)).setCell ⟨W.heap.size + 1 + 1, 2, none⟩ (.slice (some ⟨g2, 0, none⟩) m c2)).setCell ⟨W.heap.size + 1 + 1, 3, none⟩ (.slice a9 1 c9)) (W.heap.size + 3) (.slice a9 1 c9) [⟨(by1 : Int), (to : Int), (u : Int), seq, true⟩]) := (((HO9.out.setCell (by simp) _).setCell (by simp) _).setCell (by simp) _).setCell (by simp) _
    obtain ⟨-, y0, y1, y2, y3, yf⟩ := HR9.out
    go_wp2
    clear y0 y1 y2 y3 yf
    obtain ⟨-, y0, y1, y2, y3, yf⟩ := HRF.out
    exact bodyPost_ret (v := .agg #[.slice a0 k0 c0, .slice (some ⟨g1, 0, none⟩) n c1, .slice (some ⟨g2, 0, none⟩) m c2, .slice a9 1 c9]) (by simp [results, Try.results39, go_sem, y0, y1, y2, y3]) rfl ⟨_, rfl, by rw [HEQ.out]; exact HFF.out.1, OwnLt.mono HOF.out (by omega), HFF.out.2⟩
  · have d0 : ¬ kk < seq := by omega
    have d1 : (kk == seq) = true := beq_iff_eq.2 hcase
    have H2 : Hid (SF (w1.setCell ⟨gj, u, none⟩ (.int .i64 0)) B (.slice a0 k0 c0) (.slice a1 n c1) (.slice a2 m c2) (.slice none 0 0) xs ys zs ⟨f.lk, f.kn, setR f.ow r u 0, f.ln⟩ n) := HS5.out 0 (by omega) (by omega)
    have HX2 : Hid (Bx4 (w1.setCell ⟨gj, u, none⟩ (.int .i64 0)) W.heap.size (.slice a0 k0 c0) (.slice a1 n c1) (.slice a2 m c2) (.slice none 0 0)) := HX1.out.other (by simp; omega) _
    have HL2 : Hid (Bx5 (w1.setCell ⟨gj, u, none⟩ (.int .i64 0)) (W.heap.size + 1) (.int .i64 (to : Int)) (.int .i64 (by1 : Int)) (.int .i64 (u : Int)) (.int .i64 seq) (.bool false)) := HL1.out.other (by simp; omega) _
    have HR2 : Hid (Bx4 (w1.setCell ⟨gj, u, none⟩ (.int .i64 0)) (W.heap.size + 1 + 1) (.slice none 0 0) (.slice none 0 0) (.slice none 0 0) (.slice none 0 0)) := HR1.out.other (by simp; omega) _
    have HT2 : Hid (Turned (InKO ys zs) W (w1.setCell ⟨gj, u, none⟩ (.int .i64 0))) := HT1.out.set (.inl (.inr HSI.out.2.1)) _
    have HEQ : Hid (takeE ds f to u seq r = ⟨f.lk, f.kn, setR f.ow r u 0, f.ln⟩) := HTE.out.2.1 hcase
    have HXo := HX1
    have HLo := HL1
    clear hcase HX1 HL1 HR1 H1 HT1
    subst hg1 hg2
    have HG : Hid (∀ W', W' = (w1.setCell ⟨gj, u, none⟩ (.int .i64 0)) → W'.heap.size = w1.heap.size) := fun W' e => by rw [e]; simp [World.setCell]
    clear x0 x1 x2 x3 xf l0 l1 l2 l3 l4 lf
    obtain ⟨-, x0, x1, x2, x3, xf⟩ := HXo.out
    obtain ⟨-, l0, l1, l2, l3, l4, lf⟩ := HLo.out
    obtain ⟨-, X0, X1, X2, X3, XF⟩ := HX2.out
    obtain ⟨-, L0, L1, L2, L3, L4, LF⟩ := HL2.out
    go_wp2_with fail
    refine (l6Write_nil _ a0 (some ⟨g1, 0, none⟩) (some ⟨g2, 0, none⟩) k0 n m c0 c1 c2 ⟨(by1 : Int), (to : Int), (u : Int), seq, true⟩).mono ?_
    clear x0 x1 x2 x3 xf l0 l1 l2 l3 l4 lf X0 X1 X2 X3 XF L0 L1 L2 L3 L4 LF HXo HLo
    rintro e w9 ⟨l9, rfl, ho9, hb9⟩
    obtain ⟨a9, c9, hv9⟩ := OwnLt.shape ho9
    replace hv9 : l9 = .slice a9 1 c9 := hv9
    subst hv9
    have HR9 : Hid (Bx4 w9 (W.heap.size + 1 + 1) (.slice none 0 0) (.slice none 0 0) (.slice none 0 0) (.slice none 0 0)) := HR2.out.below hb9
    have hz9 : W.heap.size + 3 ≤ w9.heap.size := by have := HR9.out.lt; omega
    have HO9 : Hid (OwnLt w9 (W.heap.size + 3) (.slice a9 1 c9) [⟨(by1 : Int), (to : Int), (u : Int), seq, true⟩]) := OwnLt.mono ho9 (by have := HR2.out.lt; omega)
    have HH9 : Hid (SF w9 B (.slice a0 k0 c0) (.slice (some ⟨g1, 0, none⟩) n c1) (.slice (some ⟨g2, 0, none⟩) m c2) (.slice none 0 0) xs ys zs ⟨f.lk, f.kn, setR f.ow r u 0, f.ln⟩ n ∧ Turned (InKO ys zs) W w9) := ⟨H2.out.below hb9, HT2.out.below0 hb9⟩
    clear ho9 hb9 HR2 H2 HT2
    have HRF : Hid (Bx4 ((((w9.setCell ⟨W.heap.size + 1 + 1, 0, none⟩ (.slice a0 k0 c0)).setCell ⟨W.heap.size + 1 + 1, 1, none⟩ (.slice (some ⟨g1, 0, none⟩) n c1)).setCell ⟨W.heap.size + 1 + 1, 2, none⟩ (.slice (some ⟨g2, 0, none⟩) m c2)).setCell ⟨W.heap.size + 1 + 1, 3, none⟩ (.slice a9 1 c9)) (W.heap.size + 1 + 1) (.slice a0 k0 c0) (.slice (some ⟨g1, 0, none⟩) n c1) (.slice (some ⟨g2, 0, none⟩) m c2) (.slice a9 1 c9)) := (((HR9.out.put0 _).put1 _).put2 _).put3 _
    have HBF : Hid (Below W.heap.size w9 ((((w9.setCell ⟨W.heap.size + 1 + 1, 0, none⟩ (.slice a0 k0 c0)).setCell ⟨W.heap.size + 1 + 1, 1, none⟩ (.slice (some ⟨g1, 0, none⟩) n c1)).setCell ⟨W.heap.size + 1 + 1, 2, none⟩ (.slice (some ⟨g2, 0, none⟩) m c2)).setCell ⟨W.heap.size + 1 + 1, 3, none⟩ (.slice a9 1 c9))) := ((((Below.refl _ _).setCell (by simp; omega) _).setCell (by simp; omega) _).setCell (by simp; omega) _).setCell (by simp; omega) _
    have HFF : Hid (SF ((((w9.setCell ⟨W.heap.size + 1 + 1, 0, none⟩ (.slice a0 k0 c0)).setCell ⟨W.heap.size + 1 + 1, 1, none⟩ (.slice (some ⟨g1, 0, none⟩) n c1)).setCell ⟨W.heap.size + 1 + 1, 2, none⟩ (.slice (some ⟨g2, 0, none⟩) m c2)).setCell ⟨W.heap.size + 1 + 1, 3, none⟩ (.slice a9 1 c9)) B (.slice a0 k0 c0) (.slice (some ⟨g1, 0, none⟩) n c1) (.slice (some ⟨g2, 0, none⟩) m c2) (.slice none 0 0) xs ys zs ⟨f.lk, f.kn, setR f.ow r u 0, f.ln⟩ n ∧ Turned (InKO ys zs) W ((((w9.setCell ⟨W.heap.size + 1 + 1, 0, none⟩ (.slice a0 k0 c0)).setCell ⟨W.heap.size + 1 + 1, 1, none⟩ (.slice (some ⟨g1, 0, none⟩) n c1)).setCell ⟨W.heap.size + 1 + 1, 2, none⟩ (.slice (some ⟨g2, 0, none⟩) m c2)).setCell ⟨W.heap.size + 1 + 1, 3, none⟩ (.slice a9 1 c9))) := ⟨HW.out.keep HH9.out.1 HBF.out, HH9.out.2.keep HBF.out⟩
    have HOF : Hid (OwnLt ((((w9.setCell ⟨W.heap.size + 1 + 1, 0, none⟩ (.slice a0 k0 c0)).setCell ⟨W.heap.size + 1 + 1, 1, none⟩ (.slice (some ⟨g1, 0, none⟩) n c1)).setCell ⟨W.heap.size + 1 + 1, 2, none⟩ (.slice (some ⟨g2, 0, none⟩) m c2)).setCell ⟨W.heap.size + 1 + 1, 3, none⟩ (.slice a9 1 c9)) (W.heap.size + 3) (.slice a9 1 c9) [⟨(by1 : Int), (to : Int), (u : Int), seq, true⟩]) := (((HO9.out.setCell (by simp) _).setCell (by simp) _).setCell (by simp) _).setCell (by simp) _
    obtain ⟨-, y0, y1, y2, y3, yf⟩ := HR9.out
    go_wp2
    clear y0 y1 y2 y3 yf
    obtain ⟨-, y0, y1, y2, y3, yf⟩ := HRF.out
    exact bodyPost_ret (v := .agg #[.slice a0 k0 c0, .slice (some ⟨g1, 0, none⟩) n c1, .slice (some ⟨g2, 0, none⟩) m c2, .slice a9 1 c9]) (by simp [results, Try.results39, go_sem, y0, y1, y2, y3]) rfl ⟨_, rfl, by rw [HEQ.out]; exact HFF.out.1, OwnLt.mono HOF.out (by omega), HFF.out.2⟩
  · have d0 : ¬ kk < seq := by omega
    have d1 : (kk == seq) = false := beq_eq_false_iff_ne.2 (by omega)
    have H2 : Hid (SF (w1.setCell ⟨gj, u, none⟩ (.int .i64 1)) B (.slice a0 k0 c0) (.slice a1 n c1) (.slice a2 m c2) (.slice none 0 0) xs ys zs ⟨f.lk, f.kn, setR f.ow r u 1, f.ln⟩ n) := HS5.out 1 (by omega) (by omega)
    have HX2 : Hid (Bx4 (w1.setCell ⟨gj, u, none⟩ (.int .i64 1)) W.heap.size (.slice a0 k0 c0) (.slice a1 n c1) (.slice a2 m c2) (.slice none 0 0)) := HX1.out.other (by simp; omega) _
    have HL2 : Hid (Bx5 (w1.setCell ⟨gj, u, none⟩ (.int .i64 1)) (W.heap.size + 1) (.int .i64 (to : Int)) (.int .i64 (by1 : Int)) (.int .i64 (u : Int)) (.int .i64 seq) (.bool false)) := HL1.out.other (by simp; omega) _
    have HR2 : Hid (Bx4 (w1.setCell ⟨gj, u, none⟩ (.int .i64 1)) (W.heap.size + 1 + 1) (.slice none 0 0) (.slice none 0 0) (.slice none 0 0) (.slice none 0 0)) := HR1.out.other (by simp; omega) _
    have HT2 : Hid (Turned (InKO ys zs) W (w1.setCell ⟨gj, u, none⟩ (.int .i64 1))) := HT1.out.set (.inl (.inr HSI.out.2.1)) _
    have HEQ : Hid (takeE ds f to u seq r = ⟨f.lk, f.kn, setR f.ow r u 1, f.ln⟩) := HTE.out.2.2 hcase
    have HXo := HX1
    have HLo := HL1
    clear hcase HX1 HL1 HR1 H1 HT1
    subst hg1 hg2
    have HG : Hid (∀ W', W' = (w1.setCell ⟨gj, u, none⟩ (.int .i64 1)) → W'.heap.size = w1.heap.size) := fun W' e => by rw [e]; simp [World.setCell]
    clear x0 x1 x2 x3 xf l0 l1 l2 l3 l4 lf
    obtain ⟨-, x0, x1, x2, x3, xf⟩ := HXo.out
    obtain ⟨-, l0, l1, l2, l3, l4, lf⟩ := HLo.out
    obtain ⟨-, X0, X1, X2, X3, XF⟩ := HX2.out
    obtain ⟨-, L0, L1, L2, L3, L4, LF⟩ := HL2.out
    go_wp2_with fail
    refine (l6Write_nil _ a0 (some ⟨g1, 0, none⟩) (some ⟨g2, 0, none⟩) k0 n m c0 c1 c2 ⟨(by1 : Int), (to : Int), (u : Int), seq, true⟩).mono ?_
    clear x0 x1 x2 x3 xf l0 l1 l2 l3 l4 lf X0 X1 X2 X3 XF L0 L1 L2 L3 L4 LF HXo HLo
    rintro e w9 ⟨l9, rfl, ho9, hb9⟩
    obtain ⟨a9, c9, hv9⟩ := OwnLt.shape ho9
    replace hv9 : l9 = .slice a9 1 c9 := hv9
    subst hv9
    have HR9 : Hid (Bx4 w9 (W.heap.size + 1 + 1) (.slice none 0 0) (.slice none 0 0) (.slice none 0 0) (.slice none 0 0)) := HR2.out.below hb9
    have hz9 : W.heap.size + 3 ≤ w9.heap.size := by have := HR9.out.lt; omega
    have HO9 : Hid (OwnLt w9 (W.heap.size + 3) (.slice a9 1 c9) [⟨(by1 : Int), (to : Int), (u : Int), seq, true⟩]) := OwnLt.mono ho9 (by have := HR2.out.lt; omega)
    have HH9 : Hid (SF w9 B (.slice a0 k0 c0) (.slice (some ⟨g1, 0, none⟩) n c1) (.slice (some ⟨g2, 0, none⟩) m c2) (.slice none 0 0) xs ys zs ⟨f.lk, f.kn, setR f.ow r u 1, f.ln⟩ n ∧ Turned (InKO ys zs) W w9) := ⟨H2.out.below hb9, HT2.out.below0 hb9⟩
    clear ho9 hb9 HR2 H2 HT2
    have HRF : Hid (Bx4 ((((w9.setCell ⟨W.heap.size + 1 + 1, 0, none⟩ (.slice a0 k0 c0)).setCell ⟨W.heap.size + 1 + 1, 1, none⟩ (.slice (some ⟨g1, 0, none⟩) n c1)).setCell ⟨W.heap.size + 1 + 1, 2, none⟩ (.slice (some ⟨g2, 0, none⟩) m c2)).setCell ⟨W.heap.size + 1 + 1, 3, none⟩ (.slice a9 1 c9)) (W.heap.size + 1 + 1) (.slice a0 k0 c0) (.slice (some ⟨g1, 0, none⟩) n c1) (.slice (some ⟨g2, 0, none⟩) m c2) (.slice a9 1 c9)) := (((HR9.out.put0 _).put1 _).put2 _).put3 _
    have HBF : Hid (Below W.heap.size w9 ((((w9.setCell ⟨W.heap.size + 1 + 1, 0, none⟩ (.slice a0 k0 c0)).setCell ⟨W.heap.size + 1 + 1, 1, none⟩ (.slice (some ⟨g1, 0, none⟩) n c1)).setCell ⟨W.heap.size + 1 + 1, 2, none⟩ (.slice (some ⟨g2, 0, none⟩) m c2)).setCell ⟨W.heap.size + 1 + 1, 3, none⟩ (.slice a9 1 c9))) := ((((Below.refl _ _).setCell (by simp; omega) _).setCell (by simp; omega) _).setCell (by simp; omega) _).setCell (by simp; omega) _
    have HFF : Hid (SF ((((w9.setCell ⟨W.heap.size + 1 + 1, 0, none⟩ (.slice a0 k0 c0)).setCell ⟨W.heap.size + 1 + 1, 1, none⟩ (.slice (some ⟨g1, 0, none⟩) n c1)).setCell ⟨W.heap.size + 1 + 1, 2, none⟩ (.slice (some ⟨g2, 0, none⟩) m c2)).setCell ⟨W.heap.size + 1 + 1, 3, none⟩ (.slice a9 1 c9)) B (.slice a0 k0 c0) (.slice (some ⟨g1, 0, none⟩) n c1) (.slice (some ⟨g2, 0, none⟩) m c2) (.slice none 0 0) xs ys zs ⟨f.lk, f.kn, setR f.ow r u 1, f.ln⟩ n ∧ Turned (InKO ys zs) W ((((w9.setCell ⟨W.heap.size + 1 + 1, 0, none⟩ (.slice a0 k0 c0)).setCell ⟨W.heap.size + 1 + 1, 1, none⟩ (.slice (some ⟨g1, 0, none⟩) n c1)).setCell ⟨W.heap.size + 1 + 1, 2, none⟩ (.slice (some ⟨g2, 0, none⟩) m c2)).setCell ⟨W.heap.size + 1 + 1, 3, none⟩ (.slice a9 1 c9))) := ⟨HW.out.keep HH9.out.1 HBF.out, HH9.out.2.keep HBF.out⟩
    have HOF : Hid (OwnLt ((((w9.setCell ⟨W.heap.size + 1 + 1, 0, none⟩ (.slice a0 k0 c0)).setCell ⟨W.heap.size + 1 + 1, 1, none⟩ (.slice (some ⟨g1, 0, none⟩) n c1)).setCell ⟨W.heap.size + 1 + 1, 2, none⟩ (.slice (some ⟨g2, 0, none⟩) m c2)).setCell ⟨W.heap.size + 1 + 1, 3, none⟩ (.slice a9 1 c9)) (W.heap.size + 3) (.slice a9 1 c9) [⟨(by1 : Int), (to : Int), (u : Int), seq, true⟩]) := (((HO9.out.setCell (by simp) _).setCell (by simp) _).setCell (by simp) _).setCell (by simp) _
    obtain ⟨-, y0, y1, y2, y3, yf⟩ := HR9.out
    go_wp2
    clear y0 y1 y2 y3 yf
    obtain ⟨-, y0, y1, y2, y3, yf⟩ := HRF.out
    exact bodyPost_ret (v := .agg #[.slice a0 k0 c0, .slice (some ⟨g1, 0, none⟩) n c1, .slice (some ⟨g2, 0, none⟩) m c2, .slice a9 1 c9]) (by simp [results, Try.results39, go_sem, y0, y1, y2, y3]) rfl ⟨_, rfl, by rw [HEQ.out]; exact HFF.out.1, OwnLt.mono HOF.out (by omega), HFF.out.2⟩
end Go.Proofs.Ytkkamigaolejiax
