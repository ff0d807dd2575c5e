/-
  'settleFlood' of the program.
-/
import Derived.Test.YtkkamigaolejiaxFlExch
import Derived.Test.YtkkamigaolejiaxFlFirst
namespace Go.Proofs.Ytkkamigaolejiax
open Go.RowKit
set_option linter.unusedVariables false

theorem ixD_self {n : Nat} {lks : List (List Int)} (h : linksB (n : Int) lks = true) (i : Nat) (hi : i < (debtsL n lks).length) : ixD (debtsL n lks) (dp (debtsL n lks) i : Int) (dq (debtsL n lks) i : Int) = (i : Int) := by
  obtain ⟨e1, e2, -, -, hj⟩ := debt_at h i hi
  obtain ⟨k, hk, hkl, hp, hq⟩ := ixD_at ((ixD_joined h _ _).2 hj)
  obtain ⟨f1, f2⟩ := dpq_at (debtsL n lks) k hkl
  have hki : k = i := debts_one h k i hkl hi (by rw [f1, hp]; omega) (by rw [f2, hq]; omega)
  rw [hk, hki]
theorem SF.noLine {W : World} {B : Nat} {x y z l : Value} {xs ys zs : List Value} {f : FD} {n : Nat} (h : SF W B x y z l xs ys zs f n) : SF W B x y z (.slice none 0 0) xs ys zs ⟨f.lk, f.kn, f.ow, []⟩ n :=
  ⟨⟨h.own.lk, h.own.kn, h.own.ow, OwnLt.nil _ _, h.own.a01, h.own.a02, h.own.a12⟩, h.num.clear [], h.lks, h.n1, h.n6, h.low⟩
theorem SF.setOw {W : World} {B : Nat} {x y z l : Value} {xs ys zs : List Value} {f : FD} {n : Nat} (h : SF W B x y z l xs ys zs f n) {gi i j : Nat} (hg : InSS zs gi) (hi : i < (debtsL n f.lk).length) (hj : j < n) {v : Int} (h0 : 0 ≤ v) (h1 : v ≤ 1) (hz : OwnSS (W.setCell ⟨gi, j, none⟩ (.int .i64 v)) B z zs (setR f.ow i j v)) : SF (W.setCell ⟨gi, j, none⟩ (.int .i64 v)) B x y z l xs ys zs ⟨f.lk, f.kn, setR f.ow i j v, f.ln⟩ n :=
  ⟨ow_inner h.own hg j _ hz, ⟨h.num.kn, h.num.ow.set hi hj h0 h1, h.num.dl, h.num.hp, h.num.hq⟩, h.lks, h.n1, h.n6, by have := h.low; simpa [World.setCell] using this⟩
/-- A cell of what is known; of what is owed. -/
theorem SF.knCell {W : World} {B : Nat} {x z l : Value} {a1 : Option Addr} {c1 : Nat} {xs ys zs : List Value} {f : FD} {n : Nat} (h : SF W B x (.slice a1 n c1) z l xs ys zs f n) {i j : Nat} (hi : i < n) (hj : j < n) : ∃ g gi ci, a1 = some ⟨g, 0, none⟩ ∧ W.cell? ⟨g, i, none⟩ = some (.slice (some ⟨gi, 0, none⟩) n ci) ∧ W.cell? ⟨gi, j, none⟩ = some (.int .i64 (atR f.kn i j)) := by
  obtain ⟨hl1, hl2, hl3, hl4⟩ := h.lens
  have hi' : i < f.kn.length := by rw [hl1]; exact hi
  obtain ⟨g, c, gi, ci, hv, r1, r2, -⟩ := h.own.kn.cell i j hi' (by rw [hl3 i hi']; exact hj)
  simp only [Value.slice.injEq] at hv
  rw [hl3 i hi'] at r1
  exact ⟨g, gi, ci, hv.1, r1, r2⟩
theorem SF.owCell {W : World} {B : Nat} {x y l : Value} {a2 : Option Addr} {m c2 : Nat} {xs ys zs : List Value} {f : FD} {n : Nat} (h : SF W B x y (.slice a2 m c2) l xs ys zs f n) {i j : Nat} (hi : i < (debtsL n f.lk).length) (hj : j < n) : ∃ g gi ci, a2 = some ⟨g, 0, none⟩ ∧ W.cell? ⟨g, i, none⟩ = some (.slice (some ⟨gi, 0, none⟩) n ci) ∧ (∃ o, W.cell? ⟨gi, j, none⟩ = some (.int .i64 o)) ∧ W.frozen? ⟨gi, j, none⟩ = false ∧ InSS zs gi ∧ ∀ v : Int, 0 ≤ v → v ≤ 1 → SF (W.setCell ⟨gi, j, none⟩ (.int .i64 v)) B x y (.slice a2 m c2) l xs ys zs ⟨f.lk, f.kn, setR f.ow i j v, f.ln⟩ n := by
  obtain ⟨hl1, hl2, hl3, hl4⟩ := h.lens
  have hi' : i < f.ow.length := by rw [hl2]; exact hi
  obtain ⟨g, c, gi, ci, hv, r1, r2, r3, r4, r5, r6⟩ := h.own.ow.cell i j hi' (by rw [hl4 i hi']; exact hj)
  simp only [Value.slice.injEq] at hv
  rw [hl4 i hi'] at r1
  exact ⟨g, gi, ci, hv.1, r1, ⟨_, r2⟩, r3, r4, fun v v0 v1 => h.setOw r4 hi hj v0 v1 (r6 v)⟩
theorem SF.keep2 {W w w' : World} {B : Nat} {x y z l0 l : Value} {xs ys zs : List Value} {f0 f : FD} {n : Nat} (h0 : SF W B x y z l0 xs ys zs f0 n) (h : SF w B x y z l xs ys zs f n) (hl : ∀ k, l.ownBlock = some k → k < W.heap.size) (hb : Below W.heap.size w w') : SF w' B x y z l xs ys zs f n := by
  have e : ∀ b, b < W.heap.size → w'.heap[b]? = w.heap[b]? := fun b hb' => hb.block b hb'
  refine ⟨⟨?_, ?_, ?_, ?_, h.own.a01, h.own.a02, h.own.a12⟩, h.num, h.lks, h.n1, h.n6, Nat.le_trans h.low hb.size⟩
  · exact h.own.lk.same (fun k hk => e k (World.ownsRow.lt h0.own.lk.row k hk).2) (fun k hk => e k (h0.own.lk.inLt k hk).2)
  · exact h.own.kn.same (fun k hk => e k (World.ownsRow.lt h0.own.kn.row k hk).2) (fun k hk => e k (h0.own.kn.inLt k hk).2)
  · exact h.own.ow.same (fun k hk => e k (World.ownsRow.lt h0.own.ow.row k hk).2) (fun k hk => e k (h0.own.ow.inLt k hk).2)
  · exact rowSame h.own.ln (fun k hk => e k (hl k hk))
theorem ownDb_turned {P : Nat → Prop} {W W' : World} {B : Nat} {v : Value} {hs : List DbD} (h : OwnDb W B v hs) (ht : Turned P W W') (hn : ∀ b, P b → b < B) : OwnDb W' B v hs := rowTurned h ht (fun b hb hp => by have := (World.ownsRow.lt h b hb).1; have := hn b hp; omega)

set_option maxRecDepth 100000 in
set_option maxHeartbeats 4000000 in
theorem settle_any (W : World) (B : Nat) (x y z l : Value) (xs ys zs : List Value) (f g : FD) (n k : Nat) (h : SF W B x y z l xs ys zs f n) (hs : Settles (debtsL n f.lk) f k g) :
    Calls Try.prog 41 #[.agg #[x, y, z, l]] W fun e W' => ∃ l', e = .returned (.tuple #[.agg #[x, y, z, l'], .int .i64 (k : Int)]) ∧ SF W' B x y z l' xs ys zs g n ∧ Turned (InKO ys zs) W W' := by
  obtain ⟨hl1, hl2, -, -⟩ := h.lens
  have hd36 := debts36 n f.lk h.n6
  obtain ⟨hkb, -, -⟩ := settles_far h.n6 hd36 h.lks h.num hs
  have hfb := (far_bound h.num h.n6 hd36).2
  have hk63 : k ≤ 2200000 := by omega
  clear hkb hfb
  have HLW : Hid (∀ b, InKO ys zs b → b < W.heap.size) := fun b hb => hb.elim (fun e => (h.own.kn.inLt b e).2) (fun e => (h.own.ow.inLt b e).2)
  have HDA : Hid (∀ i (hi : i < (debtsL n f.lk).length), ((debtsL n f.lk)[i].p = (dp (debtsL n f.lk) i : Int) ∧ (debtsL n f.lk)[i].q = (dq (debtsL n f.lk) i : Int)) ∧ (dp (debtsL n f.lk) i < n ∧ dq (debtsL n f.lk) i < n) ∧ ixD (debtsL n f.lk) (dq (debtsL n f.lk) i : Int) (dp (debtsL n f.lk) i : Int) = (rvD (debtsL n f.lk) i : Int) ∧ rvD (debtsL n f.lk) i < (debtsL n f.lk).length ∧ ixD (debtsL n f.lk) (dp (debtsL n f.lk) i : Int) (dq (debtsL n f.lk) i : Int) = (i : Int)) := fun i hi => by
    obtain ⟨e1, e2, e3, e4, -⟩ := debt_at h.lks i hi
    obtain ⟨r0, r1, -⟩ := rvD_ok h.lks i hi
    exact ⟨⟨e1, e2⟩, ⟨e3, e4⟩, r0, r1, ixD_self h.lks i hi⟩
  obtain ⟨a0, c0, hx⟩ := h.own.lk.shape
  obtain ⟨a1, c1, hy⟩ := h.own.kn.shape
  obtain ⟨a2, c2, hz⟩ := h.own.ow.shape
  obtain ⟨a3, c3, hl⟩ := h.own.ln.shape
  rw [hl1] at hy
  rw [hl2] at hz
  subst hx hy hz hl
  have hb1 : Below W.heap.size W (W.alloc (.cells #[.slice a0 f.lk.length c0, .slice a1 n c1, .slice a2 (debtsL n f.lk).length c2, .slice a3 f.ln.length c3] 31)) := (Below.refl _ W).alloc (Nat.le_refl _) _
  have CD0 : ∀ w', SF w' B (.slice a0 f.lk.length c0) (.slice a1 n c1) (.slice a2 (debtsL n f.lk).length c2) (.slice a3 f.ln.length c3) xs ys zs f n → Calls Try.prog 59 #[.int .i64 (n : Int), .slice a0 f.lk.length c0] w' fun e W' => ∃ v', e = .returned v' ∧ OwnDb W' w'.heap.size v' (debtsL n f.lk) ∧ Below w'.heap.size w' W' := fun w' h' => debtsOf_any w' _ f.lk n h'.own.lk.reads (links2 h.lks) (by have := links15 h.lks (by have := h.n6; omega); omega) h.n6
  generalize hkk : f.lk = lk at *
  generalize hds : debtsL n lk = ds at *
  generalize hk0 : lk.length = k0 at *
  obtain ⟨m, hm'⟩ : ∃ m, m = ds.length := ⟨_, rfl⟩
  rw [← hm'] at h hb1 CD0 ⊢
  have hm : ds.length = m := hm'.symm
  clear hm'
  generalize hk3 : f.ln.length = k3 at *
  have HDS : Hid (debtsL n lk = ds) := hds
  have HLK : Hid (f.lk = lk) := hkk
  have HML : Hid (ds.length = m) := hm
  have hb0 : Below W.heap.size W ((W.alloc (.cells #[.slice a0 k0 c0, .slice a1 n c1, .slice a2 m c2, .slice a3 k3 c3] 31)).alloc (.cells #[.slice none 0 0, .slice none 0 0, .slice none 0 0, .slice none 0 0] 31)) := hb1.alloc (by simp) _
  have H0 : Hid (SF ((W.alloc (.cells #[.slice a0 k0 c0, .slice a1 n c1, .slice a2 m c2, .slice a3 k3 c3] 31)).alloc (.cells #[.slice none 0 0, .slice none 0 0, .slice none 0 0, .slice none 0 0] 31)) B (.slice a0 k0 c0) (.slice a1 n c1) (.slice a2 m c2) (.slice a3 k3 c3) xs ys zs f n) := h.below hb0
  have HX0 : Hid (Bx4 ((W.alloc (.cells #[.slice a0 k0 c0, .slice a1 n c1, .slice a2 m c2, .slice a3 k3 c3] 31)).alloc (.cells #[.slice none 0 0, .slice none 0 0, .slice none 0 0, .slice none 0 0] 31)) W.heap.size (.slice a0 k0 c0) (.slice a1 n c1) (.slice a2 m c2) (.slice a3 k3 c3)) := (Bx4.new W (.slice a0 k0 c0) (.slice a1 n c1) (.slice a2 m c2) (.slice a3 k3 c3) 31).below ((Below.refl _ _).alloc (Nat.le_refl _) _)
  have HR0 : Hid (Bx4 ((W.alloc (.cells #[.slice a0 k0 c0, .slice a1 n c1, .slice a2 m c2, .slice a3 k3 c3] 31)).alloc (.cells #[.slice none 0 0, .slice none 0 0, .slice none 0 0, .slice none 0 0] 31)) (W.heap.size + 1) (.slice none 0 0) (.slice none 0 0) (.slice none 0 0) (.slice none 0 0)) := by
    have := Bx4.new (W.alloc (.cells #[.slice a0 k0 c0, .slice a1 n c1, .slice a2 m c2, .slice a3 k3 c3] 31)) (.slice none 0 0) (.slice none 0 0) (.slice none 0 0) (.slice none 0 0) 31
    exact (show Bx4 _ _ _ _ _ _ by simpa using this)
  have HT0 : Hid (Turned (InKO ys zs) W ((W.alloc (.cells #[.slice a0 k0 c0, .slice a1 n c1, .slice a2 m c2, .slice a3 k3 c3] 31)).alloc (.cells #[.slice none 0 0, .slice none 0 0, .slice none 0 0, .slice none 0 0] 31))) := Turned.ofBelow hb0
  have hz0 : W.heap.size + 2 ≤ (((W.alloc (.cells #[.slice a0 k0 c0, .slice a1 n c1, .slice a2 m c2, .slice a3 k3 c3] 31)).alloc (.cells #[.slice none 0 0, .slice none 0 0, .slice none 0 0, .slice none 0 0] 31))).heap.size := by simp
  have CD : Hid (Calls Try.prog 59 #[.int .i64 (n : Int), .slice a0 k0 c0] ((W.alloc (.cells #[.slice a0 k0 c0, .slice a1 n c1, .slice a2 m c2, .slice a3 k3 c3] 31)).alloc (.cells #[.slice none 0 0, .slice none 0 0, .slice none 0 0, .slice none 0 0] 31)) fun e W' => ∃ v', e = .returned v' ∧ OwnDb W' (((W.alloc (.cells #[.slice a0 k0 c0, .slice a1 n c1, .slice a2 m c2, .slice a3 k3 c3] 31)).alloc (.cells #[.slice none 0 0, .slice none 0 0, .slice none 0 0, .slice none 0 0] 31))).heap.size v' ds ∧ Below (((W.alloc (.cells #[.slice a0 k0 c0, .slice a1 n c1, .slice a2 m c2, .slice a3 k3 c3] 31)).alloc (.cells #[.slice none 0 0, .slice none 0 0, .slice none 0 0, .slice none 0 0] 31))).heap.size ((W.alloc (.cells #[.slice a0 k0 c0, .slice a1 n c1, .slice a2 m c2, .slice a3 k3 c3] 31)).alloc (.cells #[.slice none 0 0, .slice none 0 0, .slice none 0 0, .slice none 0 0] 31)) W') := CD0 _ H0.out
  have HST : Hid (Settles ds f k g) := hs
  have HW : Hid (SF W B (.slice a0 k0 c0) (.slice a1 n c1) (.slice a2 m c2) (.slice a3 k3 c3) xs ys zs f n) := h
  have HLB0 : Hid (∀ b, (.slice a3 k3 c3 : Value).ownBlock = some b → b < W.heap.size) := fun b hb => (World.ownsRow.lt h.own.ln b hb).2
  clear h hb0 hb1 CD0 hs hds hkk hk0 hm hk3 hl1 hl2 hd36
  go_enter Try.func41, Try.ntmps41
  generalize hw0 : ((W.alloc (.cells #[.slice a0 k0 c0, .slice a1 n c1, .slice a2 m c2, .slice a3 k3 c3] 31)).alloc (.cells #[.slice none 0 0, .slice none 0 0, .slice none 0 0, .slice none 0 0] 31)) = w0 at *
  obtain ⟨-, x0, x1, x2, x3, -⟩ := HX0.out
  go_wp2_with fail
  refine CD.out.mono ?_
  clear hw0 x0 x1 x2 x3
  rintro e w1 ⟨v1, rfl, ho1, hb1⟩
  obtain ⟨b1, d1, hv1⟩ := ho1.shape
  rw [HML.out] at hv1
  subst hv1
  have HI : Hid (Settles ds f k g ∧ f.lk = lk ∧ (∀ b, (.slice a3 k3 c3 : Value).ownBlock = some b → b < W.heap.size) ∧ SF w1 B (.slice a0 k0 c0) (.slice a1 n c1) (.slice a2 m c2) (.slice a3 k3 c3) xs ys zs f n ∧ Bx4 w1 W.heap.size (.slice a0 k0 c0) (.slice a1 n c1) (.slice a2 m c2) (.slice a3 k3 c3) ∧ Bx4 w1 (W.heap.size + 1) (.slice none 0 0) (.slice none 0 0) (.slice none 0 0) (.slice none 0 0) ∧ Turned (InKO ys zs) W w1 ∧ OwnDb w1 (W.heap.size + 2) (.slice b1 m d1) ds) := ⟨HST.out, HLK.out, HLB0.out, H0.out.below hb1, HX0.out.below hb1, HR0.out.below hb1, HT0.out.below0 hb1, ho1.mono hz0⟩
  clear ho1 hb1 CD H0 HX0 HR0 HT0 hz0 HST HLK HLB0
  go_wp2
  go_loopw [5] (fun t wr => ∃ (j mm : Nat) (fc : FD) (al : Option Addr) (kl cl : Nat), t = .int .i64 j ∧ j + mm = k ∧ Hid (Settles ds fc mm g ∧ fc.lk = lk ∧ (∀ b, (.slice al kl cl : Value).ownBlock = some b → b < W.heap.size) ∧ SF wr B (.slice a0 k0 c0) (.slice a1 n c1) (.slice a2 m c2) (.slice al kl cl) xs ys zs fc n ∧ Bx4 wr W.heap.size (.slice a0 k0 c0) (.slice a1 n c1) (.slice a2 m c2) (.slice al kl cl) ∧ Bx4 wr (W.heap.size + 1) (.slice none 0 0) (.slice none 0 0) (.slice none 0 0) (.slice none 0 0) ∧ Turned (InKO ys zs) W wr ∧ OwnDb wr (W.heap.size + 2) (.slice b1 m d1) ds)) (fun t _ => k - (intOf t).toNat)
  case atStart => exact ⟨0, k, f, a3, k3, c3, rfl, by omega, HI⟩
  case round =>
    obtain ⟨j, mm, fc, al, kl, cl, rfl, hjm, HK⟩ := hrel
    have hjk : (j : Int) ≤ 2200000 := by omega
    have CF : Hid (∀ ri ru rb, ((∃ i u : Nat, FirstO fc.ow i u ∧ ri = (i : Int) ∧ ru = (u : Int) ∧ rb = true) ∨ (NoneO fc.ow ∧ ri = 0 ∧ ru = 0 ∧ rb = false)) → Calls Try.prog 71 #[.agg #[.slice a0 k0 c0, .slice a1 n c1, .slice a2 m c2, .slice al kl cl]] wr fun e W' => e = .returned (.tuple #[.int .i64 ri, .int .i64 ru, .bool rb]) ∧ Below wr.heap.size wr W') := fun ri ru rb hres => by
      obtain ⟨l1, l2, l3, l4⟩ := HK.out.2.2.2.1.lens
      have hn6 := HK.out.2.2.2.1.n6
      refine firstOwed_any wr _ _ _ _ fc HK.out.2.2.2.1.own.reads ?_ ?_ ri ru rb hres
      · rw [l2]; exact debts36 n fc.lk hn6
      · exact fun j hj => by rw [l4 j hj]; exact hn6
    obtain ⟨-, x0, x1, x2, x3, -⟩ := HK.out.2.2.2.2.1
    rcases first_or fc.ow with hN | ⟨i, u, hF⟩
    · obtain ⟨hm0, hgf⟩ := HK.out.1.zero hN
      have CF0 := CF.out 0 0 false (.inr ⟨hN, rfl, rfl, rfl⟩)
      have HCF : Hid (Calls Try.prog 71 #[.agg #[.slice a0 k0 c0, .slice a1 n c1, .slice a2 m c2, .slice al kl cl]] wr fun e W' => e = .returned (.tuple #[.int .i64 0, .int .i64 0, .bool false]) ∧ Below wr.heap.size wr W') := CF0
      have HG : Hid (g = fc) := hgf
      have HJ : Hid (j = k) := (show j = k by omega)
      clear CF CF0 hN hgf
      go_wp2_with fail
      refine HCF.out.mono ?_
      rintro e w2 ⟨rfl, hb2⟩
      have HX2 : Hid (Bx4 w2 W.heap.size (.slice a0 k0 c0) (.slice a1 n c1) (.slice a2 m c2) (.slice al kl cl)) := HK.out.2.2.2.2.1.below hb2
      have HR2 : Hid (Bx4 w2 (W.heap.size + 1) (.slice none 0 0) (.slice none 0 0) (.slice none 0 0) (.slice none 0 0)) := HK.out.2.2.2.2.2.1.below hb2
      have HS2 : Hid (SF w2 B (.slice a0 k0 c0) (.slice a1 n c1) (.slice a2 m c2) (.slice al kl cl) xs ys zs fc n ∧ Turned (InKO ys zs) W w2) := ⟨HK.out.2.2.2.1.below hb2, HK.out.2.2.2.2.2.2.1.below0 hb2⟩
      have HBF : Hid (Below W.heap.size w2 ((((w2.setCell ⟨W.heap.size + 1, 0, none⟩ (.slice a0 k0 c0)).setCell ⟨W.heap.size + 1, 1, none⟩ (.slice a1 n c1)).setCell ⟨W.heap.size + 1, 2, none⟩ (.slice a2 m c2)).setCell ⟨W.heap.size + 1, 3, none⟩ (.slice al kl cl))) := ((((Below.refl _ w2).setCell (by simp) _).setCell (by simp) _).setCell (by simp) _).setCell (by simp) _
      have HRF : Hid (Bx4 ((((w2.setCell ⟨W.heap.size + 1, 0, none⟩ (.slice a0 k0 c0)).setCell ⟨W.heap.size + 1, 1, none⟩ (.slice a1 n c1)).setCell ⟨W.heap.size + 1, 2, none⟩ (.slice a2 m c2)).setCell ⟨W.heap.size + 1, 3, none⟩ (.slice al kl cl)) (W.heap.size + 1) (.slice a0 k0 c0) (.slice a1 n c1) (.slice a2 m c2) (.slice al kl cl)) := (((HR2.out.put0 _).put1 _).put2 _).put3 _
      have HFF : Hid (SF ((((w2.setCell ⟨W.heap.size + 1, 0, none⟩ (.slice a0 k0 c0)).setCell ⟨W.heap.size + 1, 1, none⟩ (.slice a1 n c1)).setCell ⟨W.heap.size + 1, 2, none⟩ (.slice a2 m c2)).setCell ⟨W.heap.size + 1, 3, none⟩ (.slice al kl cl)) B (.slice a0 k0 c0) (.slice a1 n c1) (.slice a2 m c2) (.slice al kl cl) xs ys zs fc n ∧ Turned (InKO ys zs) W ((((w2.setCell ⟨W.heap.size + 1, 0, none⟩ (.slice a0 k0 c0)).setCell ⟨W.heap.size + 1, 1, none⟩ (.slice a1 n c1)).setCell ⟨W.heap.size + 1, 2, none⟩ (.slice a2 m c2)).setCell ⟨W.heap.size + 1, 3, none⟩ (.slice al kl cl))) := ⟨HW.out.keep2 HS2.out.1 HK.out.2.2.1 HBF.out, HS2.out.2.keep HBF.out⟩
      clear hb2 HCF x0 x1 x2 x3
      obtain ⟨-, x0, x1, x2, x3, -⟩ := HX2.out
      obtain ⟨-, y0, y1, y2, y3, yf⟩ := HR2.out
      go_wp2
      clear x0 x1 x2 x3 y0 y1 y2 y3 yf
      obtain ⟨-, y0, y1, y2, y3, yf⟩ := HRF.out
      refine bodyPost_ret (v := .tuple #[.agg #[.slice a0 k0 c0, .slice a1 n c1, .slice a2 m c2, .slice al kl cl], .int .i64 (j : Int)]) (by simp [results, Try.results41, go_sem, y0, y1, y2, y3]) rfl ⟨_, by rw [HJ.out], by rw [HG.out]; exact HFF.out.1, HFF.out.2⟩
    · have hlkc : fc.lk = lk := HK.out.2.1
      have hdsc : debtsL n fc.lk = ds := by rw [hlkc]; exact HDS.out
      obtain ⟨hfi, hfu, hf1⟩ := HK.out.2.2.2.1.num.firstO hF
      rw [hdsc] at hfi
      obtain ⟨m1, hmm, hst⟩ := HK.out.1.more hF
      obtain ⟨⟨ep, eq⟩, ⟨hpn, hqn⟩, hrv, hrm, hself⟩ := HDA.out i hfi
      have hsq0 := HK.out.2.2.2.1.num.kn.lo _ u hpn hfu
      have hsq1 := HK.out.2.2.2.1.num.kn.up _ u hpn hfu
      have HCF : Hid (Calls Try.prog 71 #[.agg #[.slice a0 k0 c0, .slice a1 n c1, .slice a2 m c2, .slice al kl cl]] wr fun e W' => e = .returned (.tuple #[.int .i64 (i : Int), .int .i64 (u : Int), .bool true]) ∧ Below wr.heap.size wr W') := CF.out (i : Int) (u : Int) true (.inl ⟨i, u, hF, rfl, rfl, rfl⟩)
      have HDB : Hid (∀ w', OwnDb w' (W.heap.size + 2) (.slice b1 m d1) ds → ∃ gd od, b1 = some ⟨gd, od, none⟩ ∧ w'.cell? ⟨gd, od + i * 2, none⟩ = some (.int .i64 (dp ds i : Int)) ∧ w'.cell? ⟨gd, od + i * 2 + 1, none⟩ = some (.int .i64 (dq ds i : Int))) := fun w' h' => by
        obtain ⟨ad, cd, hvd, hcd⟩ := h'.reads
        simp only [Value.slice.injEq] at hvd
        obtain ⟨gd, od, hbd, hgd, hcc⟩ := hcd.resolve_left (fun e => by rw [e] at hfi; exact absurd hfi (Nat.not_lt_zero _))
        obtain ⟨q0, q1⟩ := hcc i hfi
        exact ⟨gd, od, by rw [hvd.1, hbd], by rw [q0, ep], by rw [q1, eq]⟩
      have HZS : Hid (atR fc.kn (dp ds i) u = 0 → stepS ds fc i u (rvD ds i) = ⟨fc.lk, fc.kn, setR fc.ow i u 0, fc.ln⟩) := fun e => by unfold stepS; rw [if_pos e]
      have CE : Hid (atR fc.kn (dp ds i) u ≠ 0 → ∀ w', SF w' B (.slice a0 k0 c0) (.slice a1 n c1) (.slice a2 m c2) (.slice none 0 0) xs ys zs ⟨fc.lk, fc.kn, fc.ow, []⟩ n → Calls Try.prog 72 #[.agg #[.slice a0 k0 c0, .slice a1 n c1, .slice a2 m c2, .slice none 0 0], .agg #[.int .i64 (dq ds i : Int), .int .i64 (dp ds i : Int), .int .i64 (u : Int), .int .i64 (atR fc.kn (dp ds i) u), .bool false]] w' fun e W' => (∃ v, e = .returned v) ∧ SF W' B (.slice a0 k0 c0) (.slice a1 n c1) (.slice a2 m c2) (.slice none 0 0) xs ys zs (stepS ds fc i u (rvD ds i)) n ∧ Turned (InKO ys zs) w' W') := fun hne w' h' => by
        have hE := exchange_any w' B _ _ _ _ xs ys zs ⟨fc.lk, fc.kn, fc.ow, []⟩ n h' (dq ds i) (dp ds i) u (rvD ds i) i (atR fc.kn (dp ds i) u) hqn hpn hfu (by rw [hdsc]; exact hrv) (by rw [hdsc]; exact hrm) (by rw [hdsc]; exact hself) (by rw [hdsc]; exact hfi) hsq0 hsq1
        rw [hdsc] at hE
        have he : stepS ds fc i u (rvD ds i) = takeA (takeE ds ⟨fc.lk, fc.kn, fc.ow, []⟩ (dq ds i) u (atR fc.kn (dp ds i) u) (rvD ds i)) (dp ds i) u (atR fc.kn (dp ds i) u) i := by unfold stepS; rw [if_neg hne]
        rw [he]
        exact hE
      have CK : Hid (∀ w', SF w' B (.slice a0 k0 c0) (.slice a1 n c1) (.slice a2 m c2) (.slice al kl cl) xs ys zs fc n → ∃ g1 gi ci, a1 = some ⟨g1, 0, none⟩ ∧ w'.cell? ⟨g1, dp ds i, none⟩ = some (.slice (some ⟨gi, 0, none⟩) n ci) ∧ w'.cell? ⟨gi, u, none⟩ = some (.int .i64 (atR fc.kn (dp ds i) u))) := fun w' h' => h'.knCell hpn hfu
      have CO : Hid (∀ w', SF w' B (.slice a0 k0 c0) (.slice a1 n c1) (.slice a2 m c2) (.slice al kl cl) xs ys zs fc n → ∃ g2 gj cj, a2 = some ⟨g2, 0, none⟩ ∧ w'.cell? ⟨g2, i, none⟩ = some (.slice (some ⟨gj, 0, none⟩) n cj) ∧ (∃ o, w'.cell? ⟨gj, u, none⟩ = some (.int .i64 o)) ∧ w'.frozen? ⟨gj, u, none⟩ = false ∧ InSS zs gj ∧ ∀ v : Int, 0 ≤ v → v ≤ 1 → SF (w'.setCell ⟨gj, u, none⟩ (.int .i64 v)) B (.slice a0 k0 c0) (.slice a1 n c1) (.slice a2 m c2) (.slice al kl cl) xs ys zs ⟨fc.lk, fc.kn, setR fc.ow i u v, fc.ln⟩ n) := fun w' h' => h'.owCell (by rw [hdsc]; exact hfi) hfu
      have HSTEP : Hid (Settles ds (stepS ds fc i u (rvD ds i)) m1 g ∧ (stepS ds fc i u (rvD ds i)).lk = lk ∧ mm = m1 + 1) := ⟨hst, by rw [stepS_lk]; exact hlkc, hmm⟩
      have him : (i : Int) < (m : Int) := by have := HML.out; omega
      have hun : (u : Int) < (n : Int) := by omega
      have hpnI : (dp ds i : Int) < (n : Int) := by omega
      clear CF hF hst hmm hfi hfu hf1 hrv hrm hself hsq0 hsq1 ep eq hlkc hdsc hpn hqn
      generalize hgn : stepS ds fc i u (rvD ds i) = fn at *
      have HFN : Hid (stepS ds fc i u (rvD ds i) = fn) := hgn
      clear hgn
      generalize dp ds i = p at *
      generalize dq ds i = q at *
      generalize hsq : atR fc.kn p u = sq at *
      clear hsq
      go_wp2_with fail
      refine HCF.out.mono ?_
      rintro e w2 ⟨rfl, hb2⟩
      have HX2 : Hid (Bx4 w2 W.heap.size (.slice a0 k0 c0) (.slice a1 n c1) (.slice a2 m c2) (.slice al kl cl)) := HK.out.2.2.2.2.1.below hb2
      have HR2 : Hid (Bx4 w2 (W.heap.size + 1) (.slice none 0 0) (.slice none 0 0) (.slice none 0 0) (.slice none 0 0)) := HK.out.2.2.2.2.2.1.below hb2
      have HS2 : Hid (SF w2 B (.slice a0 k0 c0) (.slice a1 n c1) (.slice a2 m c2) (.slice al kl cl) xs ys zs fc n ∧ Turned (InKO ys zs) W w2) := ⟨HK.out.2.2.2.1.below hb2, HK.out.2.2.2.2.2.2.1.below0 hb2⟩
      have HO2 : Hid (OwnDb w2 (W.heap.size + 2) (.slice b1 m d1) ds) := HK.out.2.2.2.2.2.2.2.below hb2
      have HLBK : Hid (∀ b, (.slice al kl cl : Value).ownBlock = some b → b < W.heap.size) := HK.out.2.2.1
      clear hb2 HCF x0 x1 x2 x3 HK
      obtain ⟨gd, od, hbd, d1', d2'⟩ := HDB.out w2 HO2.out
      clear HDB
      subst hbd
      go_wp2
      go_quiet (fail)
      have HX3 : Hid (Bx4 (w2.drewN nq) W.heap.size (.slice a0 k0 c0) (.slice a1 n c1) (.slice a2 m c2) (.slice al kl cl)) := HX2.out.below (below_drewN (Below.refl _ _) nq)
      have HR3 : Hid (Bx4 (w2.drewN nq) (W.heap.size + 1) (.slice none 0 0) (.slice none 0 0) (.slice none 0 0) (.slice none 0 0)) := HR2.out.below (below_drewN (Below.refl _ _) nq)
      have HS3 : Hid (SF (w2.drewN nq) B (.slice a0 k0 c0) (.slice a1 n c1) (.slice a2 m c2) (.slice al kl cl) xs ys zs fc n ∧ Turned (InKO ys zs) W (w2.drewN nq)) := ⟨HS2.out.1.drewN nq, HS2.out.2.below0 (below_drewN (Below.refl _ _) nq)⟩
      have HO3 : Hid (OwnDb (w2.drewN nq) (W.heap.size + 2) (.slice (some ⟨gd, od, none⟩) m d1) ds) := HO2.out.below (below_drewN (Below.refl _ _) nq)
      clear HX2 HR2 HS2 HO2 d1' d2'
      generalize w2.drewN nq = w3 at *
      obtain ⟨-, x0, x1, x2, x3, xf⟩ := HX3.out
      obtain ⟨g1, gi, ci, hg1, r1, r2⟩ := CK.out w3 HS3.out.1
      obtain ⟨g2, gj, cj, hg2, s1, ⟨oo, s2⟩, s3, s4, s5⟩ := CO.out w3 HS3.out.1
      have hgjH : gj < W.heap.size := HLW.out gj (.inr s4)
      by_cases hsz : sq = 0
      · have d0 : (sq == 0) = true := beq_iff_eq.2 hsz
        have HF4 : Hid (SF (w3.setCell ⟨gj, u, none⟩ (.int .i64 0)) B (.slice a0 k0 c0) (.slice a1 n c1) (.slice a2 m c2) (.slice al kl cl) xs ys zs ⟨fc.lk, fc.kn, setR fc.ow i u 0, fc.ln⟩ n) := s5 0 (by omega) (by omega)
        have HX4 : Hid (Bx4 (w3.setCell ⟨gj, u, none⟩ (.int .i64 0)) W.heap.size (.slice a0 k0 c0) (.slice a1 n c1) (.slice a2 m c2) (.slice al kl cl)) := HX3.out.other (by simp; omega) _
        have HR4 : Hid (Bx4 (w3.setCell ⟨gj, u, none⟩ (.int .i64 0)) (W.heap.size + 1) (.slice none 0 0) (.slice none 0 0) (.slice none 0 0) (.slice none 0 0)) := HR3.out.other (by simp; omega) _
        have HT4 : Hid (Turned (InKO ys zs) W (w3.setCell ⟨gj, u, none⟩ (.int .i64 0))) := HS3.out.2.set (.inl (.inr s4)) _
        have HO4 : Hid (OwnDb (w3.setCell ⟨gj, u, none⟩ (.int .i64 0)) (W.heap.size + 2) (.slice (some ⟨gd, od, none⟩) m d1) ds) := HO3.out.setCell (by simp; omega) _
        have HZ4 : Hid (fn = ⟨fc.lk, fc.kn, setR fc.ow i u 0, fc.ln⟩) := HZS.out hsz
        clear hsz HX3 HR3 HS3 HO3 CE CK CO s4 s5 HZS HFN
        subst hg1 hg2
        go_wp2
        go_roundw
        case rel => exact ⟨j + 1, m1, fn, al, kl, cl, by go_num, by have := HSTEP.out.2.2; omega, HSTEP.out.1, HSTEP.out.2.1, HLBK.out, by rw [HZ4.out]; exact HF4.out, HX4.out, HR4.out, HT4.out, HO4.out⟩
        case measure => have := HSTEP.out.2.2; simp [intOf]; omega
      · have d0 : (sq == 0) = false := beq_eq_false_iff_ne.2 hsz
        have HB4 : Hid (Below W.heap.size w3 (w3.setCell ⟨W.heap.size, 3, none⟩ (.slice none 0 0))) := (Below.refl _ w3).setCell (by simp) _
        have HF4 : Hid (SF (w3.setCell ⟨W.heap.size, 3, none⟩ (.slice none 0 0)) B (.slice a0 k0 c0) (.slice a1 n c1) (.slice a2 m c2) (.slice none 0 0) xs ys zs ⟨fc.lk, fc.kn, fc.ow, []⟩ n) := (HW.out.keep2 HS3.out.1 HLBK.out HB4.out).noLine
        have HX4 : Hid (Bx4 (w3.setCell ⟨W.heap.size, 3, none⟩ (.slice none 0 0)) W.heap.size (.slice a0 k0 c0) (.slice a1 n c1) (.slice a2 m c2) (.slice none 0 0)) := HX3.out.put3 _
        have HR4 : Hid (Bx4 (w3.setCell ⟨W.heap.size, 3, none⟩ (.slice none 0 0)) (W.heap.size + 1) (.slice none 0 0) (.slice none 0 0) (.slice none 0 0) (.slice none 0 0)) := HR3.out.other (by simp) _
        have HT4 : Hid (Turned (InKO ys zs) W (w3.setCell ⟨W.heap.size, 3, none⟩ (.slice none 0 0))) := HS3.out.2.keep HB4.out
        have HO4 : Hid (OwnDb (w3.setCell ⟨W.heap.size, 3, none⟩ (.slice none 0 0)) (W.heap.size + 2) (.slice (some ⟨gd, od, none⟩) m d1) ds) := HO3.out.setCell (by simp) _
        have CEX : Hid (Calls Try.prog 72 #[.agg #[.slice a0 k0 c0, .slice a1 n c1, .slice a2 m c2, .slice none 0 0], .agg #[.int .i64 (q : Int), .int .i64 (p : Int), .int .i64 (u : Int), .int .i64 sq, .bool false]] (w3.setCell ⟨W.heap.size, 3, none⟩ (.slice none 0 0)) fun e W' => (∃ v, e = .returned v) ∧ SF W' B (.slice a0 k0 c0) (.slice a1 n c1) (.slice a2 m c2) (.slice none 0 0) xs ys zs fn n ∧ Turned (InKO ys zs) (w3.setCell ⟨W.heap.size, 3, none⟩ (.slice none 0 0)) W') := CE.out hsz _ HF4.out
        clear hsz HX3 HR3 HS3 HO3 CE CK CO s1 s2 s3 s4 s5 HZS HFN HF4
        subst hg1 hg2
        go_wp2_with fail
        refine CEX.out.mono ?_
        rintro e w5 ⟨⟨v5, rfl⟩, h5, ht5⟩
        have HF5 : Hid (SF w5 B (.slice a0 k0 c0) (.slice (some ⟨g1, 0, none⟩) n c1) (.slice (some ⟨g2, 0, none⟩) m c2) (.slice none 0 0) xs ys zs fn n) := h5
        have HX5 : Hid (Bx4 w5 W.heap.size (.slice a0 k0 c0) (.slice (some ⟨g1, 0, none⟩) n c1) (.slice (some ⟨g2, 0, none⟩) m c2) (.slice none 0 0)) := HX4.out.turned ht5 (fun hb => by have := HLW.out _ hb; omega)
        have HR5 : Hid (Bx4 w5 (W.heap.size + 1) (.slice none 0 0) (.slice none 0 0) (.slice none 0 0) (.slice none 0 0)) := HR4.out.turned ht5 (fun hb => by have := HLW.out _ hb; omega)
        have HT5 : Hid (Turned (InKO ys zs) W w5) := HT4.out.trans ht5
        have HO5 : Hid (OwnDb w5 (W.heap.size + 2) (.slice (some ⟨gd, od, none⟩) m d1) ds) := ownDb_turned HO4.out ht5 (fun b hb => by have := HLW.out _ hb; omega)
        clear h5 ht5 CEX HX4 HR4 HT4 HO4 HB4 x0 x1 x2 x3 xf r1 r2
        go_wp2
        go_roundw
        case rel => exact ⟨j + 1, m1, fn, none, 0, 0, by go_num, by have := HSTEP.out.2.2; omega, HSTEP.out.1, HSTEP.out.2.1, fun b hb => by simp [Value.ownBlock] at hb, HF5.out, HX5.out, HR5.out, HT5.out, HO5.out⟩
        case measure => have := HSTEP.out.2.2; simp [intOf]; omega
end Go.Proofs.Ytkkamigaolejiax
