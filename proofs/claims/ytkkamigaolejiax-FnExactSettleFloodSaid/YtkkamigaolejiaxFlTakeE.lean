/-
  'takeEntry', 'takeAck' of the program.
-/
import Derived.Test.YtkkamigaolejiaxJo
import Derived.BigQuiet
import Derived.Deep.RegionHeld3
namespace Go.Proofs.Ytkkamigaolejiax
open Go.RowKit
set_option linter.unusedVariables false

/-- The rows of what is known, and of what is owed. -/
def InKO (ys zs : List Value) (b : Nat) : Prop := InSS ys b ∨ InSS zs b
theorem SF.drewN {W : World} {B : Nat} {x y z l : Value} {xs ys zs : List Value} {f : FD} {n : Nat} (h : SF W B x y z l xs ys zs f n) (k : Nat) : SF (W.drewN k) B x y z l xs ys zs f n := h.below (below_drewN (Below.refl _ _) k)
theorem SF.setKn {W : World} {B : Nat} {x y z l : Value} {xs ys zs : List Value} {f : FD} {n : Nat} (h : SF W B x y z l xs ys zs f n) {gi i j : Nat} (hg : InSS ys gi) (hi : i < n) (hj : j < n) {v : Int} (h0 : 0 ≤ v) (h1 : v ≤ 60) (hz : OwnSS (W.setCell ⟨gi, j, none⟩ (.int .i64 v)) B y ys (setR f.kn i j v)) : SF (W.setCell ⟨gi, j, none⟩ (.int .i64 v)) B x y z l xs ys zs ⟨f.lk, setR f.kn i j v, f.ow, f.ln⟩ n :=
  ⟨kn_inner h.own hg j _ hz, ⟨h.num.kn.set hi hj h0 h1, h.num.ow, h.num.dl, h.num.hp, h.num.hq⟩, h.lks, h.n1, h.n6, by have := h.low; simpa [World.setCell] using this⟩
theorem Turned.below0 {P : Nat → Prop} {W w w' : World} (h : Turned P W w) (hb : Below w.heap.size w w') : Turned P W w' := h.trans (Turned.ofBelow hb)
theorem Bx5.same {W W' : World} {b : Nat} {x y z u v : Value} (h : Bx5 W b x y z u v) (e : W'.heap[b]? = W.heap[b]?) (hs : W.heap.size ≤ W'.heap.size) : Bx5 W' b x y z u v :=
  ⟨Nat.lt_of_lt_of_le h.lt hs, (World.cell?_of_block e).trans h.c0, (World.cell?_of_block e).trans h.c1, (World.cell?_of_block e).trans h.c2, (World.cell?_of_block e).trans h.c3, (World.cell?_of_block e).trans h.c4, fun j => (World.frozen?_of_block e).trans (h.fz j)⟩
theorem Bx5.other {W : World} {b : Nat} {x y z u v : Value} (h : Bx5 W b x y z u v) {p : Addr} (hp : p.block ≠ b) (q : Value) : Bx5 (W.setCell p q) b x y z u v := h.same (Below.heap_setCell _ _ _ _ (fun e => hp e.symm)) (by simp [World.setCell])
theorem Bx4.turned {P : Nat → Prop} {W W' : World} {b : Nat} {x y z u : Value} (h : Bx4 W b x y z u) (ht : Turned P W W') (hn : ¬ P b) : Bx4 W' b x y z u := h.same (ht.block b h.lt hn) ht.size
theorem Bx5.turned {P : Nat → Prop} {W W' : World} {b : Nat} {x y z u v : Value} (h : Bx5 W b x y z u v) (ht : Turned P W W') (hn : ¬ P b) : Bx5 W' b x y z u v := h.same (ht.block b h.lt hn) ht.size
theorem cellOther (W : World) {p q : Addr} (h : q.block ≠ p.block) (v : Value) : (W.setCell p v).cell? q = W.cell? q := World.cell?_of_block (Below.heap_setCell _ _ _ _ h)
theorem SF.lessK {W : World} {B : Nat} {x y z l : Value} {xs ys zs : List Value} {f : FD} {n : Nat} (h : SF W B x y z l xs ys zs f n) (w : World) (b : Nat) (hb : W.heap.size ≤ b) (hk : InKO ys zs b) : False := by
  rcases hk with hk | hk
  · have := (h.own.kn.inLt b hk).2; omega
  · have := (h.own.ow.inLt b hk).2; omega

set_option maxRecDepth 100000 in
set_option maxHeartbeats 4000000 in
theorem takeAck_any (W : World) (B : Nat) (x y z l : Value) (xs ys zs : List Value) (f : FD) (n : Nat) (h : SF W B x y z l xs ys zs f n) (to by1 u r : Nat) (seq : Int) (ak : Bool) (hto : to < n) (hu : u < n) (hr : ixD (debtsL n f.lk) (to : Int) (by1 : Int) = (r : Int)) (hrm : r < (debtsL n f.lk).length) :
    Calls Try.prog 80 #[.agg #[x, y, z, l], .agg #[.int .i64 (to : Int), .int .i64 (by1 : Int), .int .i64 (u : Int), .int .i64 seq, .bool ak]] W fun e W' => (∃ v, e = .returned v) ∧ SF W' B x y z l xs ys zs (takeA f to u seq r) n ∧ Turned (InKO ys zs) W W' := by
  obtain ⟨hl1, hl2, hl3, hl4⟩ := h.lens
  have hto' : to < f.kn.length := by rw [hl1]; exact hto
  obtain ⟨a0, c0, rfl⟩ := h.own.lk.shape
  obtain ⟨a1, c1, rfl⟩ := h.own.kn.shape
  obtain ⟨a2, c2, rfl⟩ := h.own.ow.shape
  obtain ⟨a3, c3, rfl⟩ := h.own.ln.shape
  have hb1 : Below W.heap.size W (W.alloc (.cells #[.slice a0 f.lk.length c0, .slice a1 f.kn.length c1, .slice a2 f.ow.length c2, .slice a3 f.ln.length c3] 31)) := (Below.refl _ W).alloc (Nat.le_refl _) _
  have hb0 : Below W.heap.size W ((W.alloc (.cells #[.slice a0 f.lk.length c0, .slice a1 f.kn.length c1, .slice a2 f.ow.length c2, .slice a3 f.ln.length c3] 31)).alloc (.cells #[.int .i64 (to : Int), .int .i64 (by1 : Int), .int .i64 (u : Int), .int .i64 seq, .bool ak] 66)) := hb1.alloc (by simp) _
  have HX0 : Hid (Bx4 ((W.alloc (.cells #[.slice a0 f.lk.length c0, .slice a1 f.kn.length c1, .slice a2 f.ow.length c2, .slice a3 f.ln.length c3] 31)).alloc (.cells #[.int .i64 (to : Int), .int .i64 (by1 : Int), .int .i64 (u : Int), .int .i64 seq, .bool ak] 66)) W.heap.size (.slice a0 f.lk.length c0) (.slice a1 f.kn.length c1) (.slice a2 f.ow.length c2) (.slice a3 f.ln.length c3)) := (Bx4.new W (.slice a0 f.lk.length c0) (.slice a1 f.kn.length c1) (.slice a2 f.ow.length c2) (.slice a3 f.ln.length c3) 31).below ((Below.refl _ _).alloc (Nat.le_refl _) _)
  have HL0 : Hid (Bx5 ((W.alloc (.cells #[.slice a0 f.lk.length c0, .slice a1 f.kn.length c1, .slice a2 f.ow.length c2, .slice a3 f.ln.length c3] 31)).alloc (.cells #[.int .i64 (to : Int), .int .i64 (by1 : Int), .int .i64 (u : Int), .int .i64 seq, .bool ak] 66)) (W.heap.size + 1) (.int .i64 (to : Int)) (.int .i64 (by1 : Int)) (.int .i64 (u : Int)) (.int .i64 seq) (.bool ak)) := by
    have := Bx5.new (W.alloc (.cells #[.slice a0 f.lk.length c0, .slice a1 f.kn.length c1, .slice a2 f.ow.length c2, .slice a3 f.ln.length c3] 31)) (.int .i64 (to : Int)) (.int .i64 (by1 : Int)) (.int .i64 (u : Int)) (.int .i64 seq) (.bool ak) 66
    exact (show Bx5 _ _ _ _ _ _ _ by simpa using this)
  have H0 : Hid (SF ((W.alloc (.cells #[.slice a0 f.lk.length c0, .slice a1 f.kn.length c1, .slice a2 f.ow.length c2, .slice a3 f.ln.length c3] 31)).alloc (.cells #[.int .i64 (to : Int), .int .i64 (by1 : Int), .int .i64 (u : Int), .int .i64 seq, .bool ak] 66)) B (.slice a0 f.lk.length c0) (.slice a1 f.kn.length c1) (.slice a2 f.ow.length c2) (.slice a3 f.ln.length c3) xs ys zs f n) := h.below hb0
  have HT0 : Hid (Turned (InKO ys zs) W ((W.alloc (.cells #[.slice a0 f.lk.length c0, .slice a1 f.kn.length c1, .slice a2 f.ow.length c2, .slice a3 f.ln.length c3] 31)).alloc (.cells #[.int .i64 (to : Int), .int .i64 (by1 : Int), .int .i64 (u : Int), .int .i64 seq, .bool ak] 66))) := Turned.ofBelow hb0
  have HLW : Hid (∀ b, InKO ys zs b → b < W.heap.size) := fun b hb => hb.elim (fun e => (h.own.kn.inLt b e).2) (fun e => (h.own.ow.inLt b e).2)
  have HGW : Hid (∀ b, (.slice a1 f.kn.length c1 : Value).ownBlock = some b → b < W.heap.size) := fun b hb => (World.ownsRow.lt h.own.kn.row b hb).2
  have HC : Hid (∀ w', SF w' B (.slice a0 f.lk.length c0) (.slice a1 f.kn.length c1) (.slice a2 f.ow.length c2) (.slice a3 f.ln.length c3) xs ys zs f n → ∃ g gi ci, a1 = some ⟨g, 0, none⟩ ∧ w'.cell? ⟨g, to, none⟩ = some (.slice (some ⟨gi, 0, none⟩) n ci) ∧ w'.cell? ⟨gi, u, none⟩ = some (.int .i64 (atR f.kn to u)) ∧ w'.frozen? ⟨gi, u, none⟩ = false ∧ InSS ys gi ∧ g ≠ gi ∧ ∀ v : Int, 0 ≤ v → v ≤ 60 → SF (w'.setCell ⟨gi, u, none⟩ (.int .i64 v)) B (.slice a0 f.lk.length c0) (.slice a1 f.kn.length c1) (.slice a2 f.ow.length c2) (.slice a3 f.ln.length c3) xs ys zs ⟨f.lk, setR f.kn to u v, f.ow, f.ln⟩ n) := fun w' h' => by
    obtain ⟨g, c, gi, ci, hv, q1, q2, q3, q4, q5, q6⟩ := h'.own.kn.cell to u hto' (by rw [hl3 to hto']; exact hu)
    simp only [Value.slice.injEq] at hv
    rw [hl3 to hto'] at q1
    refine ⟨g, gi, ci, hv.1, q1, q2, q3, q4, fun e => ?_, fun v v0 v1 => h'.setKn q4 hto hu v0 v1 (q6 v)⟩
    obtain ⟨j, hj, hjb⟩ := q4
    exact rowsApart h'.own.kn.row (h'.own.kn.inner j hj) (by decide) gi (by rw [hv.1, e]; rfl) hjb
  have hun : (u : Int) < (n : Int) := by omega
  have hton : (to : Int) < (f.kn.length : Int) := by omega
  have HWU : Hid (∃ w0, w0 = ((W.alloc (.cells #[.slice a0 f.lk.length c0, .slice a1 f.kn.length c1, .slice a2 f.ow.length c2, .slice a3 f.ln.length c3] 31)).alloc (.cells #[.int .i64 (to : Int), .int .i64 (by1 : Int), .int .i64 (u : Int), .int .i64 seq, .bool ak] 66))) := ⟨_, rfl⟩
  clear h hb0 hb1 hl1 hl2 hl3 hl4 hto'
  have CS : Hid (∀ w', SF w' B (.slice a0 f.lk.length c0) (.slice a1 f.kn.length c1) (.slice a2 f.ow.length c2) (.slice a3 f.ln.length c3) xs ys zs f n → Calls Try.prog 88 #[.agg #[.slice a0 f.lk.length c0, .slice a1 f.kn.length c1, .slice a2 f.ow.length c2, .slice a3 f.ln.length c3], .int .i64 (to : Int), .int .i64 (by1 : Int), .int .i64 (u : Int), .int .i64 0] w' fun e W' => (∃ v, e = .returned v) ∧ SF W' B (.slice a0 f.lk.length c0) (.slice a1 f.kn.length c1) (.slice a2 f.ow.length c2) (.slice a3 f.ln.length c3) xs ys zs ⟨f.lk, f.kn, setR f.ow r u 0, f.ln⟩ n ∧ Turned (InSS zs) w' W') := fun w' h' => setOwed_any w' B _ _ _ _ xs ys zs f n h' to by1 u r 0 (by omega) (by omega) hr hrm hu
  generalize hkk : atR f.kn to u = kk at *
  have HKK : Hid (atR f.kn to u = kk) := hkk
  clear hkk
  go_enter Try.func80, Try.ntmps80
  go_wp2
  generalize hw0 : ((W.alloc (.cells #[.slice a0 f.lk.length c0, .slice a1 f.kn.length c1, .slice a2 f.ow.length c2, .slice a3 f.ln.length c3] 31)).alloc (.cells #[.int .i64 (to : Int), .int .i64 (by1 : Int), .int .i64 (u : Int), .int .i64 seq, .bool ak] 66)) = w0 at *
  clear hw0
  obtain ⟨-, x0, x1, x2, x3, -⟩ := HX0.out
  obtain ⟨-, l0, l1, l2, l3, l4, -⟩ := HL0.out
  obtain ⟨g, gi, ci, hg, r1, r2, r3, r4, -, -⟩ := HC.out w0 H0.out
  clear HC HX0 HL0 HWU HGW HLW r4 r3
  subst hg
  by_cases he : kk = seq
  · have d0 : (kk == seq) = true := beq_iff_eq.2 he
    have HT : Hid (takeA f to u seq r = ⟨f.lk, f.kn, setR f.ow r u 0, f.ln⟩) := (show takeA f to u seq r = _ from by unfold takeA; rw [if_pos (by rw [HKK.out]; exact he)])
    clear he
    go_quiet (fail)
    go_wp2_with fail
    refine (CS.out _ (H0.out.drewN nq)).mono ?_
    rintro e w2 ⟨⟨v2, rfl⟩, h2, ht2⟩
    have HF : Hid (SF w2 B (.slice a0 f.lk.length c0) (.slice (some ⟨g, 0, none⟩) f.kn.length c1) (.slice a2 f.ow.length c2) (.slice a3 f.ln.length c3) xs ys zs ⟨f.lk, f.kn, setR f.ow r u 0, f.ln⟩ n ∧ Turned (InKO ys zs) W w2) := ⟨h2, (HT0.out.below0 (below_drewN (Below.refl _ _) nq)).trans (ht2.mono fun b hb => .inr hb)⟩
    clear h2 ht2 CS H0 HT0
    go_wp2
    exact bodyPost_end (v := .tuple #[]) (by simp [results, Try.results80]) rfl ⟨⟨_, rfl⟩, by rw [HT.out]; exact HF.out.1, HF.out.2⟩
  · have d0 : (kk == seq) = false := beq_eq_false_iff_ne.2 he
    have HT : Hid (takeA f to u seq r = f) := (show takeA f to u seq r = f from by unfold takeA; rw [if_neg (by rw [HKK.out]; exact he)])
    clear he
    go_quiet (fail)
    have HF : Hid (SF (w0.drewN nq) B (.slice a0 f.lk.length c0) (.slice (some ⟨g, 0, none⟩) f.kn.length c1) (.slice a2 f.ow.length c2) (.slice a3 f.ln.length c3) xs ys zs f n ∧ Turned (InKO ys zs) W (w0.drewN nq)) := ⟨H0.out.drewN nq, HT0.out.below0 (below_drewN (Below.refl _ _) nq)⟩
    clear CS H0 HT0
    go_wp2
    exact bodyPost_end (v := .tuple #[]) (by simp [results, Try.results80]) rfl ⟨⟨_, rfl⟩, by rw [HT.out]; exact HF.out.1, HF.out.2⟩

set_option maxRecDepth 100000 in
set_option maxHeartbeats 4000000 in
theorem takeEntry_any (W : World) (B : Nat) (x y z l : Value) (xs ys zs : List Value) (f : FD) (n : Nat) (h : SF W B x y z l xs ys zs f n) (to by1 u r : Nat) (seq : Int) (ak : Bool) (hto : to < n) (hu : u < n) (hr : ixD (debtsL n f.lk) (to : Int) (by1 : Int) = (r : Int)) (hrm : r < (debtsL n f.lk).length) (h0 : 0 ≤ seq) (h1 : seq ≤ 60) :
    Calls Try.prog 81 #[.agg #[x, y, z, l], .agg #[.int .i64 (to : Int), .int .i64 (by1 : Int), .int .i64 (u : Int), .int .i64 seq, .bool ak]] W fun e W' => (∃ v, e = .returned v) ∧ SF W' B x y z l xs ys zs (takeE (debtsL n f.lk) f to u seq r) n ∧ Turned (InKO ys zs) W W' := by
  obtain ⟨hl1, hl2, hl3, hl4⟩ := h.lens
  have hto' : to < f.kn.length := by rw [hl1]; exact hto
  obtain ⟨a0, c0, rfl⟩ := h.own.lk.shape
  obtain ⟨a1, c1, rfl⟩ := h.own.kn.shape
  obtain ⟨a2, c2, rfl⟩ := h.own.ow.shape
  obtain ⟨a3, c3, rfl⟩ := h.own.ln.shape
  have hb1 : Below W.heap.size W (W.alloc (.cells #[.slice a0 f.lk.length c0, .slice a1 f.kn.length c1, .slice a2 f.ow.length c2, .slice a3 f.ln.length c3] 31)) := (Below.refl _ W).alloc (Nat.le_refl _) _
  have hb0 : Below W.heap.size W ((W.alloc (.cells #[.slice a0 f.lk.length c0, .slice a1 f.kn.length c1, .slice a2 f.ow.length c2, .slice a3 f.ln.length c3] 31)).alloc (.cells #[.int .i64 (to : Int), .int .i64 (by1 : Int), .int .i64 (u : Int), .int .i64 seq, .bool ak] 66)) := hb1.alloc (by simp) _
  have HX0 : Hid (Bx4 ((W.alloc (.cells #[.slice a0 f.lk.length c0, .slice a1 f.kn.length c1, .slice a2 f.ow.length c2, .slice a3 f.ln.length c3] 31)).alloc (.cells #[.int .i64 (to : Int), .int .i64 (by1 : Int), .int .i64 (u : Int), .int .i64 seq, .bool ak] 66)) W.heap.size (.slice a0 f.lk.length c0) (.slice a1 f.kn.length c1) (.slice a2 f.ow.length c2) (.slice a3 f.ln.length c3)) := (Bx4.new W (.slice a0 f.lk.length c0) (.slice a1 f.kn.length c1) (.slice a2 f.ow.length c2) (.slice a3 f.ln.length c3) 31).below ((Below.refl _ _).alloc (Nat.le_refl _) _)
  have HL0 : Hid (Bx5 ((W.alloc (.cells #[.slice a0 f.lk.length c0, .slice a1 f.kn.length c1, .slice a2 f.ow.length c2, .slice a3 f.ln.length c3] 31)).alloc (.cells #[.int .i64 (to : Int), .int .i64 (by1 : Int), .int .i64 (u : Int), .int .i64 seq, .bool ak] 66)) (W.heap.size + 1) (.int .i64 (to : Int)) (.int .i64 (by1 : Int)) (.int .i64 (u : Int)) (.int .i64 seq) (.bool ak)) := by
    have := Bx5.new (W.alloc (.cells #[.slice a0 f.lk.length c0, .slice a1 f.kn.length c1, .slice a2 f.ow.length c2, .slice a3 f.ln.length c3] 31)) (.int .i64 (to : Int)) (.int .i64 (by1 : Int)) (.int .i64 (u : Int)) (.int .i64 seq) (.bool ak) 66
    exact (show Bx5 _ _ _ _ _ _ _ by simpa using this)
  have H0 : Hid (SF ((W.alloc (.cells #[.slice a0 f.lk.length c0, .slice a1 f.kn.length c1, .slice a2 f.ow.length c2, .slice a3 f.ln.length c3] 31)).alloc (.cells #[.int .i64 (to : Int), .int .i64 (by1 : Int), .int .i64 (u : Int), .int .i64 seq, .bool ak] 66)) B (.slice a0 f.lk.length c0) (.slice a1 f.kn.length c1) (.slice a2 f.ow.length c2) (.slice a3 f.ln.length c3) xs ys zs f n) := h.below hb0
  have HT0 : Hid (Turned (InKO ys zs) W ((W.alloc (.cells #[.slice a0 f.lk.length c0, .slice a1 f.kn.length c1, .slice a2 f.ow.length c2, .slice a3 f.ln.length c3] 31)).alloc (.cells #[.int .i64 (to : Int), .int .i64 (by1 : Int), .int .i64 (u : Int), .int .i64 seq, .bool ak] 66))) := Turned.ofBelow hb0
  have HLW : Hid (∀ b, InKO ys zs b → b < W.heap.size) := fun b hb => hb.elim (fun e => (h.own.kn.inLt b e).2) (fun e => (h.own.ow.inLt b e).2)
  have HGW : Hid (∀ b, (.slice a1 f.kn.length c1 : Value).ownBlock = some b → b < W.heap.size) := fun b hb => (World.ownsRow.lt h.own.kn.row b hb).2
  have HC : Hid (∀ w', SF w' B (.slice a0 f.lk.length c0) (.slice a1 f.kn.length c1) (.slice a2 f.ow.length c2) (.slice a3 f.ln.length c3) xs ys zs f n → ∃ g gi ci, a1 = some ⟨g, 0, none⟩ ∧ w'.cell? ⟨g, to, none⟩ = some (.slice (some ⟨gi, 0, none⟩) n ci) ∧ w'.cell? ⟨gi, u, none⟩ = some (.int .i64 (atR f.kn to u)) ∧ w'.frozen? ⟨gi, u, none⟩ = false ∧ InSS ys gi ∧ g ≠ gi ∧ ∀ v : Int, 0 ≤ v → v ≤ 60 → SF (w'.setCell ⟨gi, u, none⟩ (.int .i64 v)) B (.slice a0 f.lk.length c0) (.slice a1 f.kn.length c1) (.slice a2 f.ow.length c2) (.slice a3 f.ln.length c3) xs ys zs ⟨f.lk, setR f.kn to u v, f.ow, f.ln⟩ n) := fun w' h' => by
    obtain ⟨g, c, gi, ci, hv, q1, q2, q3, q4, q5, q6⟩ := h'.own.kn.cell to u hto' (by rw [hl3 to hto']; exact hu)
    simp only [Value.slice.injEq] at hv
    rw [hl3 to hto'] at q1
    refine ⟨g, gi, ci, hv.1, q1, q2, q3, q4, fun e => ?_, fun v v0 v1 => h'.setKn q4 hto hu v0 v1 (q6 v)⟩
    obtain ⟨j, hj, hjb⟩ := q4
    exact rowsApart h'.own.kn.row (h'.own.kn.inner j hj) (by decide) gi (by rw [hv.1, e]; rfl) hjb
  have hun : (u : Int) < (n : Int) := by omega
  have hton : (to : Int) < (f.kn.length : Int) := by omega
  have HWU : Hid (∃ w0, w0 = ((W.alloc (.cells #[.slice a0 f.lk.length c0, .slice a1 f.kn.length c1, .slice a2 f.ow.length c2, .slice a3 f.ln.length c3] 31)).alloc (.cells #[.int .i64 (to : Int), .int .i64 (by1 : Int), .int .i64 (u : Int), .int .i64 seq, .bool ak] 66))) := ⟨_, rfl⟩
  clear h hb0 hb1 hl1 hl2 hl3 hl4 hto'
  have CS : Hid (∀ (o : Int), 0 ≤ o → o ≤ 1 → ∀ w', SF w' B (.slice a0 f.lk.length c0) (.slice a1 f.kn.length c1) (.slice a2 f.ow.length c2) (.slice a3 f.ln.length c3) xs ys zs f n → Calls Try.prog 88 #[.agg #[.slice a0 f.lk.length c0, .slice a1 f.kn.length c1, .slice a2 f.ow.length c2, .slice a3 f.ln.length c3], .int .i64 (to : Int), .int .i64 (by1 : Int), .int .i64 (u : Int), .int .i64 o] w' fun e W' => (∃ v, e = .returned v) ∧ SF W' B (.slice a0 f.lk.length c0) (.slice a1 f.kn.length c1) (.slice a2 f.ow.length c2) (.slice a3 f.ln.length c3) xs ys zs ⟨f.lk, f.kn, setR f.ow r u o, f.ln⟩ n ∧ Turned (InSS zs) w' W') := fun o p0 p1 w' h' => setOwed_any w' B _ _ _ _ xs ys zs f n h' to by1 u r o p0 p1 hr hrm hu
  have CS2 : Hid (∀ w', SF w' B (.slice a0 f.lk.length c0) (.slice a1 f.kn.length c1) (.slice a2 f.ow.length c2) (.slice a3 f.ln.length c3) xs ys zs ⟨f.lk, setR f.kn to u seq, (oweTo (debtsL n f.lk) f.ow to u (debtsL n f.lk).length), f.ln⟩ n → Calls Try.prog 88 #[.agg #[.slice a0 f.lk.length c0, .slice a1 f.kn.length c1, .slice a2 f.ow.length c2, .slice a3 f.ln.length c3], .int .i64 (to : Int), .int .i64 (by1 : Int), .int .i64 (u : Int), .int .i64 0] w' fun e W' => (∃ v, e = .returned v) ∧ SF W' B (.slice a0 f.lk.length c0) (.slice a1 f.kn.length c1) (.slice a2 f.ow.length c2) (.slice a3 f.ln.length c3) xs ys zs ⟨f.lk, setR f.kn to u seq, setR (oweTo (debtsL n f.lk) f.ow to u (debtsL n f.lk).length) r u 0, f.ln⟩ n ∧ Turned (InSS zs) w' W') := fun w' h' => by
    have := setOwed_any w' B _ _ _ _ xs ys zs ⟨f.lk, setR f.kn to u seq, (oweTo (debtsL n f.lk) f.ow to u (debtsL n f.lk).length), f.ln⟩ n h' to by1 u r 0 (by omega) (by omega) hr hrm hu
    exact this
  have CO : Hid (∀ w', SF w' B (.slice a0 f.lk.length c0) (.slice a1 f.kn.length c1) (.slice a2 f.ow.length c2) (.slice a3 f.ln.length c3) xs ys zs ⟨f.lk, setR f.kn to u seq, f.ow, f.ln⟩ n → Calls Try.prog 78 #[.agg #[.slice a0 f.lk.length c0, .slice a1 f.kn.length c1, .slice a2 f.ow.length c2, .slice a3 f.ln.length c3], .int .i64 (to : Int), .int .i64 (u : Int)] w' fun e W' => (∃ v, e = .returned v) ∧ SF W' B (.slice a0 f.lk.length c0) (.slice a1 f.kn.length c1) (.slice a2 f.ow.length c2) (.slice a3 f.ln.length c3) xs ys zs ⟨f.lk, setR f.kn to u seq, (oweTo (debtsL n f.lk) f.ow to u (debtsL n f.lk).length), f.ln⟩ n ∧ Turned (InSS zs) w' W') := fun w' h' => by
    have := oweToAll_any w' B _ _ _ _ xs ys zs ⟨f.lk, setR f.kn to u seq, f.ow, f.ln⟩ n h' to u hu
    exact this
  generalize hkk : atR f.kn to u = kk at *
  have HKK : Hid (atR f.kn to u = kk) := hkk
  clear hkk
  go_enter Try.func81, Try.ntmps81
  go_wp2
  generalize hw0 : ((W.alloc (.cells #[.slice a0 f.lk.length c0, .slice a1 f.kn.length c1, .slice a2 f.ow.length c2, .slice a3 f.ln.length c3] 31)).alloc (.cells #[.int .i64 (to : Int), .int .i64 (by1 : Int), .int .i64 (u : Int), .int .i64 seq, .bool ak] 66)) = w0 at *
  clear hw0
  obtain ⟨-, x0, x1, x2, x3, -⟩ := HX0.out
  obtain ⟨-, l0, l1, l2, l3, l4, -⟩ := HL0.out
  obtain ⟨g, gi, ci, hg, r1, r2, -, -, -, -⟩ := HC.out w0 H0.out
  subst hg
  by_cases hlt : kk < seq
  · have HT : Hid (takeE (debtsL n f.lk) f to u seq r = ⟨f.lk, setR f.kn to u seq, setR (oweTo (debtsL n f.lk) f.ow to u (debtsL n f.lk).length) r u 0, f.ln⟩) := (show takeE (debtsL n f.lk) f to u seq r = _ from by unfold takeE; rw [if_pos (by rw [HKK.out]; exact hlt)])
    have hgt : ¬ kk > seq := by omega
    go_quiet (fail)
    have H1 : Hid (SF (w0.drewN nq) B (.slice a0 f.lk.length c0) (.slice (some ⟨g, 0, none⟩) f.kn.length c1) (.slice a2 f.ow.length c2) (.slice a3 f.ln.length c3) xs ys zs f n) := H0.out.drewN nq
    have HT1 : Hid (Turned (InKO ys zs) W (w0.drewN nq)) := HT0.out.below0 (below_drewN (Below.refl _ _) nq)
    have HX1 : Hid (Bx4 (w0.drewN nq) W.heap.size (.slice a0 f.lk.length c0) (.slice (some ⟨g, 0, none⟩) f.kn.length c1) (.slice a2 f.ow.length c2) (.slice a3 f.ln.length c3)) := HX0.out.below (below_drewN (Below.refl _ _) nq)
    have HL1 : Hid (Bx5 (w0.drewN nq) (W.heap.size + 1) (.int .i64 (to : Int)) (.int .i64 (by1 : Int)) (.int .i64 (u : Int)) (.int .i64 seq) (.bool ak)) := HL0.out.below (below_drewN (Below.refl _ _) nq)
    clear H0 HT0 HX0 HL0 x0 x1 x2 x3 l0 l1 l2 l3 l4 r1 r2
    generalize w0.drewN nq = w1 at *
    clear HWU
    obtain ⟨-, x0, x1, x2, x3, -⟩ := HX1.out
    obtain ⟨-, l0, l1, l2, l3, l4, -⟩ := HL1.out
    have H1d : Hid (SF w1.drew B (.slice a0 f.lk.length c0) (.slice (some ⟨g, 0, none⟩) f.kn.length c1) (.slice a2 f.ow.length c2) (.slice a3 f.ln.length c3) xs ys zs f n) := H1.out.below (Below.refl _ _).drew
    have HX1d : Hid (Bx4 w1.drew W.heap.size (.slice a0 f.lk.length c0) (.slice (some ⟨g, 0, none⟩) f.kn.length c1) (.slice a2 f.ow.length c2) (.slice a3 f.ln.length c3)) := HX1.out.below (Below.refl _ _).drew
    have HL1d : Hid (Bx5 w1.drew (W.heap.size + 1) (.int .i64 (to : Int)) (.int .i64 (by1 : Int)) (.int .i64 (u : Int)) (.int .i64 seq) (.bool ak)) := HL1.out.below (Below.refl _ _).drew
    have HT1d : Hid (Turned (InKO ys zs) W w1.drew) := HT1.out.below0 (Below.refl _ _).drew
    obtain ⟨g', gi, ci, hg', r1, r2, r3, r4, r5, r6⟩ := HC.out _ H1d.out
    simp only [Option.some.injEq, Addr.mk.injEq, and_true] at hg'
    subst hg'
    have hgiH : gi < W.heap.size := HLW.out gi (.inl r4)
    have H2 : Hid (SF (w1.setCell ⟨gi, u, none⟩ (.int .i64 seq)).drew B (.slice a0 f.lk.length c0) (.slice (some ⟨g, 0, none⟩) f.kn.length c1) (.slice a2 f.ow.length c2) (.slice a3 f.ln.length c3) xs ys zs ⟨f.lk, setR f.kn to u seq, f.ow, f.ln⟩ n) := r6 seq h0 h1
    have HX2 : Hid (Bx4 (w1.setCell ⟨gi, u, none⟩ (.int .i64 seq)).drew W.heap.size (.slice a0 f.lk.length c0) (.slice (some ⟨g, 0, none⟩) f.kn.length c1) (.slice a2 f.ow.length c2) (.slice a3 f.ln.length c3)) := HX1d.out.other (p := ⟨gi, u, none⟩) (by simp; omega) (.int .i64 seq)
    have HL2 : Hid (Bx5 (w1.setCell ⟨gi, u, none⟩ (.int .i64 seq)).drew (W.heap.size + 1) (.int .i64 (to : Int)) (.int .i64 (by1 : Int)) (.int .i64 (u : Int)) (.int .i64 seq) (.bool ak)) := HL1d.out.other (p := ⟨gi, u, none⟩) (by simp; omega) (.int .i64 seq)
    have HT2 : Hid (Turned (InKO ys zs) W (w1.setCell ⟨gi, u, none⟩ (.int .i64 seq)).drew) := HT1d.out.set (p := ⟨gi, u, none⟩) (.inl (.inl r4)) (.int .i64 seq)
    have HRW : Hid ((w1.setCell ⟨gi, u, none⟩ (.int .i64 seq)).drew.cell? ⟨g, to, none⟩ = some (.slice (some ⟨gi, 0, none⟩) n ci)) := (cellOther w1.drew (p := ⟨gi, u, none⟩) (q := ⟨g, to, none⟩) r5 (.int .i64 seq)).trans r1
    have HS0 : Hid (w1.drew.cell? ⟨W.heap.size, 1, none⟩ = some (.slice (some ⟨g, 0, none⟩) f.kn.length c1) ∧ w1.drew.cell? ⟨W.heap.size + 1, 0, none⟩ = some (.int .i64 (to : Int)) ∧ w1.drew.cell? ⟨g, to, none⟩ = some (.slice (some ⟨gi, 0, none⟩) n ci) ∧ w1.drew.cell? ⟨W.heap.size + 1, 2, none⟩ = some (.int .i64 (u : Int)) ∧ w1.drew.cell? ⟨W.heap.size + 1, 3, none⟩ = some (.int .i64 seq)) := ⟨HX1d.out.c1, HL1d.out.c0, r1, HL1d.out.c2, HL1d.out.c3⟩
    have HS1 : Hid ((w1.setCell ⟨gi, u, none⟩ (.int .i64 seq)).drew.cell? ⟨W.heap.size, 1, none⟩ = some (.slice (some ⟨g, 0, none⟩) f.kn.length c1) ∧ (w1.setCell ⟨gi, u, none⟩ (.int .i64 seq)).drew.cell? ⟨W.heap.size + 1, 0, none⟩ = some (.int .i64 (to : Int)) ∧ (w1.setCell ⟨gi, u, none⟩ (.int .i64 seq)).drew.cell? ⟨g, to, none⟩ = some (.slice (some ⟨gi, 0, none⟩) n ci) ∧ (w1.setCell ⟨gi, u, none⟩ (.int .i64 seq)).drew.cell? ⟨W.heap.size + 1, 2, none⟩ = some (.int .i64 (u : Int)) ∧ (w1.setCell ⟨gi, u, none⟩ (.int .i64 seq)).drew.cell? ⟨W.heap.size + 1, 3, none⟩ = some (.int .i64 seq)) := ⟨HX2.out.c1, HL2.out.c0, HRW.out, HL2.out.c2, HL2.out.c3⟩
    clear r4 r5 r6 H1 HX1 HL1 HT1 H1d HX1d HL1d HT1d HC
    go_wp2
    go_region_held3 (fun w' => w'.cell? ⟨W.heap.size, 1, none⟩ = some (.slice (some ⟨g, 0, none⟩) f.kn.length c1) ∧ w'.cell? ⟨W.heap.size + 1, 0, none⟩ = some (.int .i64 (to : Int)) ∧ w'.cell? ⟨g, to, none⟩ = some (.slice (some ⟨gi, 0, none⟩) n ci) ∧ w'.cell? ⟨W.heap.size + 1, 2, none⟩ = some (.int .i64 (u : Int)) ∧ w'.cell? ⟨W.heap.size + 1, 3, none⟩ = some (.int .i64 seq)) (first | exact HS1.out | exact HS0.out) (fail)
    clear HS0 HS1 HRW r1 r2 r3 x0 x1 x2 x3 l0 l1 l2 l3 l4
    generalize (w1.setCell ⟨gi, u, none⟩ (.int .i64 seq)).drew = w2 at *
    obtain ⟨-, x0, x1, x2, x3, -⟩ := HX2.out
    obtain ⟨-, l0, l1, l2, l3, l4, -⟩ := HL2.out
    go_wp2_with fail
    refine (CO.out _ H2.out).mono ?_
    rintro e w3 ⟨⟨v3, rfl⟩, h3, ht3⟩
    have H3 : Hid (SF w3 B (.slice a0 f.lk.length c0) (.slice (some ⟨g, 0, none⟩) f.kn.length c1) (.slice a2 f.ow.length c2) (.slice a3 f.ln.length c3) xs ys zs ⟨f.lk, setR f.kn to u seq, (oweTo (debtsL n f.lk) f.ow to u (debtsL n f.lk).length), f.ln⟩ n) := h3
    have HT3 : Hid (Turned (InKO ys zs) W w3) := HT2.out.trans (ht3.mono fun b hb => .inr hb)
    have HX3 : Hid (Bx4 w3 W.heap.size (.slice a0 f.lk.length c0) (.slice (some ⟨g, 0, none⟩) f.kn.length c1) (.slice a2 f.ow.length c2) (.slice a3 f.ln.length c3)) := HX2.out.turned ht3 (fun hb => by have := HLW.out _ (.inr hb); omega)
    have HL3 : Hid (Bx5 w3 (W.heap.size + 1) (.int .i64 (to : Int)) (.int .i64 (by1 : Int)) (.int .i64 (u : Int)) (.int .i64 seq) (.bool ak)) := HL2.out.turned ht3 (fun hb => by have := HLW.out _ (.inr hb); omega)
    clear h3 ht3 H2 HX2 HL2 HT2 CO x0 x1 x2 x3 l0 l1 l2 l3 l4
    obtain ⟨-, x0, x1, x2, x3, -⟩ := HX3.out
    obtain ⟨-, l0, l1, l2, l3, l4, -⟩ := HL3.out
    go_wp2_with fail
    refine (CS2.out _ H3.out).mono ?_
    rintro e w4 ⟨⟨v4, rfl⟩, h4, ht4⟩
    have HF : Hid (SF w4 B (.slice a0 f.lk.length c0) (.slice (some ⟨g, 0, none⟩) f.kn.length c1) (.slice a2 f.ow.length c2) (.slice a3 f.ln.length c3) xs ys zs ⟨f.lk, setR f.kn to u seq, setR (oweTo (debtsL n f.lk) f.ow to u (debtsL n f.lk).length) r u 0, f.ln⟩ n ∧ Turned (InKO ys zs) W w4) := ⟨h4, HT3.out.trans (ht4.mono fun b hb => .inr hb)⟩
    clear h4 ht4
    go_wp2
    exact bodyPost_end (v := .tuple #[]) (by simp [results, Try.results81]) rfl ⟨⟨_, rfl⟩, by rw [HT.out]; exact HF.out.1, HF.out.2⟩
  · have HTE : Hid (takeE (debtsL n f.lk) f to u seq r = ⟨f.lk, f.kn, setR f.ow r u (if seq < kk then 1 else 0), f.ln⟩) := (show takeE (debtsL n f.lk) f to u seq r = _ from by unfold takeE; rw [if_neg (by rw [HKK.out]; exact hlt), HKK.out])
    clear HX0 HL0 HC HWU HGW HLW CS2 CO
    by_cases hgt : kk > seq
    · have HT : Hid (takeE (debtsL n f.lk) f to u seq r = ⟨f.lk, f.kn, setR f.ow r u 1, f.ln⟩) := (show takeE (debtsL n f.lk) f to u seq r = _ from by rw [HTE.out, if_pos hgt])
      go_quiet (fail)
      go_wp2_with fail
      refine (CS.out 1 (by omega) (by omega) _ (H0.out.drewN nq)).mono ?_
      rintro e w2 ⟨⟨v2, rfl⟩, h2, ht2⟩
      have HF : Hid (SF w2 B (.slice a0 f.lk.length c0) (.slice (some ⟨g, 0, none⟩) f.kn.length c1) (.slice a2 f.ow.length c2) (.slice a3 f.ln.length c3) xs ys zs ⟨f.lk, f.kn, setR f.ow r u 1, f.ln⟩ n ∧ Turned (InKO ys zs) W w2) := ⟨h2, (HT0.out.below0 (below_drewN (Below.refl _ _) nq)).trans (ht2.mono fun b hb => .inr hb)⟩
      clear h2 ht2 CS H0 HT0
      go_wp2
      exact bodyPost_end (v := .tuple #[]) (by simp [results, Try.results81]) rfl ⟨⟨_, rfl⟩, by rw [HT.out]; exact HF.out.1, HF.out.2⟩
    · have HT : Hid (takeE (debtsL n f.lk) f to u seq r = ⟨f.lk, f.kn, setR f.ow r u 0, f.ln⟩) := (show takeE (debtsL n f.lk) f to u seq r = _ from by rw [HTE.out, if_neg hgt])
      go_quiet (fail)
      go_wp2_with fail
      refine (CS.out 0 (by omega) (by omega) _ (H0.out.drewN nq)).mono ?_
      rintro e w2 ⟨⟨v2, rfl⟩, h2, ht2⟩
      have HF : Hid (SF w2 B (.slice a0 f.lk.length c0) (.slice (some ⟨g, 0, none⟩) f.kn.length c1) (.slice a2 f.ow.length c2) (.slice a3 f.ln.length c3) xs ys zs ⟨f.lk, f.kn, setR f.ow r u 0, f.ln⟩ n ∧ Turned (InKO ys zs) W w2) := ⟨h2, (HT0.out.below0 (below_drewN (Below.refl _ _) nq)).trans (ht2.mono fun b hb => .inr hb)⟩
      clear h2 ht2 CS H0 HT0
      go_wp2
      exact bodyPost_end (v := .tuple #[]) (by simp [results, Try.results81]) rfl ⟨⟨_, rfl⟩, by rw [HT.out]; exact HF.out.1, HF.out.2⟩
end Go.Proofs.Ytkkamigaolejiax
