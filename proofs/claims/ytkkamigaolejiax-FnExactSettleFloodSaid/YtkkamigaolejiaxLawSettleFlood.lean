/-
  Proved: for every flood, 'SettleFlood' of the program at commit d1b657bec838 answers as the model's 'SettleFlood', every field, the number and the bool; it writes into no argument (the flood that it was handed reads as before), keeps nothing of it (marks that are written into it change no answer), and its answer is memory of its own (marks that are written into it stay there behind another call). No condition.
-/
import Derived.Test.YtkkamigaolejiaxPlain
import Derived.Test.YtkkamigaolejiaxFlSpSet
import Derived.Test.YtkkamigaolejiaxFlTo
import Derived.Test.YtkkamigaolejiaxFlMarkF
import Derived.Test.YtkkamigaolejiaxFlOf
namespace Go.Proofs.Ytkkamigaolejiax.fnExactSettleFlood
open Go.ChangeShapes Go.WideShapes Go.ChangeAt Go.RowKit
open Go.ChangeMaps (open_string shut_string)
set_option linter.unusedVariables false

theorem stepS_ln (ds : List DbD) (f : FD) (i u r : Nat) : (stepS ds f i u r).ln.length ≤ f.ln.length := by
  have ha : ∀ (f : FD) (to u : Nat) (seq : Int) (r : Nat), (takeA f to u seq r).ln = f.ln := fun f to u seq r => by unfold takeA; split <;> rfl
  have he : ∀ (ds : List DbD) (f : FD) (to u : Nat) (seq : Int) (r : Nat), (takeE ds f to u seq r).ln = f.ln := fun ds f to u seq r => by unfold takeE; split <;> rfl
  unfold stepS
  split
  · exact Nat.le_refl _
  · rw [ha, he]
    simp
theorem settles_ln {ds : List DbD} {f g : FD} {k b : Nat} (hs : Settles ds f k g) (hf : f.ln.length ≤ b) : g.ln.length ≤ b := by
  induction k generalizing f with
  | zero =>
    obtain ⟨-, rfl⟩ := hs
    exact hf
  | succ k ih =>
    obtain ⟨i, u, -, hs⟩ := hs
    exact ih hs (Nat.le_trans (stepS_ln _ _ _ _ _) hf)
theorem ownF_turned2 {P : Nat → Prop} {W W' W0 : World} {B B0 : Nat} {x y z l : Value} {xs ys zs : List Value} {f f0 : FD} (h : OwnF W B x y z l xs ys zs f) (h0 : OwnF W0 B0 x y z l xs ys zs f0) (ht : Turned P W W') (hn : ∀ b, P b → W0.heap.size ≤ b) : OwnF W' B x y z l xs ys zs f :=
  ⟨h.lk.turned ht (fun b hb hp => by have := hn b hp; have := (World.ownsRow.lt h0.lk.row b hb).2; omega) (fun b hb hp => by have := hn b hp; have := (h0.lk.inLt b hb).2; omega),
   h.kn.turned ht (fun b hb hp => by have := hn b hp; have := (World.ownsRow.lt h0.kn.row b hb).2; omega) (fun b hb hp => by have := hn b hp; have := (h0.kn.inLt b hb).2; omega),
   h.ow.turned ht (fun b hb hp => by have := hn b hp; have := (World.ownsRow.lt h0.ow.row b hb).2; omega) (fun b hb hp => by have := hn b hp; have := (h0.ow.inLt b hb).2; omega),
   rowTurned h.ln ht (fun b hb hp => by have := hn b hp; have := (World.ownsRow.lt h0.ln b hb).2; omega), h.a01, h.a02, h.a12⟩
theorem setR_fit {f g : FD} {k : Nat} (h : SetR f g k) (hf : FitF f) : FitF g := by
  rcases h with ⟨hg, hs⟩ | ⟨-, -, rfl⟩
  · obtain ⟨hn, hl, h1, h6⟩ := goodF_num hg
    obtain ⟨-, hlk, hnum⟩ := settles_far h6 (debts36 _ _ h6) hl hn hs
    have h36 := debts36 f.kn.length f.lk h6
    have rows : ∀ (zss : List (List Int)) (m : Nat) (hi : Int), Mat zss m f.kn.length hi → m ≤ 36 → zss.length ≤ 1048576 ∧ (∀ j (hj : j < zss.length), zss[j].length ≤ 1048576) ∧ ∀ k, k ≤ zss.length → sumL zss k ≤ 1048576 := fun zss m hi hm hm36 => by
      refine fit_rows zss (by rw [hm.len]; exact hm36) fun j hj => ?_
      have := hm.row j (by rw [← hm.len]; exact hj)
      rw [getL_at zss j hj] at this
      omega
    obtain ⟨b1, b2, b3⟩ := rows g.kn _ _ hnum.kn (by omega)
    obtain ⟨d1, d2, d3⟩ := rows g.ow _ _ hnum.ow h36
    exact ⟨by rw [hlk]; exact hf.lk, by rw [hlk]; exact hf.lki, by rw [hlk]; exact hf.lks, b1, b2, b3, d1, d2, d3, settles_ln hs hf.ln⟩
  · exact ⟨by simp [noF], fun j hj => absurd hj (Nat.not_lt_zero _), fun k hk => by simp [noF, sumL], by simp [noF], fun j hj => absurd hj (Nat.not_lt_zero _), fun k hk => by simp [noF, sumL], by simp [noF], fun j hj => absurd hj (Nat.not_lt_zero _), fun k hk => by simp [noF, sumL], by simp [noF]⟩

set_option maxRecDepth 100000 in
set_option maxHeartbeats 8000000 in
theorem walk (x y z l : Value) (f : FD) (w : World) (h : ReadsF w x y z l f) (hm : MaxF f) :
    Calls Try.prog 4 #[.agg #[x, y, z, l]] w fun e w' => e = .returned (.bool true) ∧ Below w.heap.size w w' := by
  have HR : Hid (∀ W1, Below w.heap.size w W1 → ReadsF W1 x y z l f) := fun W1 hb => h.below hb
  have HM : Hid (MaxF f) := hm
  obtain ⟨a0, a0c, rfl⟩ := h.lk.shape
  obtain ⟨a1, a1c, rfl⟩ := h.kn.shape
  obtain ⟨a2, a2c, rfl⟩ := h.ow.shape
  obtain ⟨a3, a3c, rfl⟩ := h.ln.shape
  have HS0 : Hid (Since w.heap.size w (w.alloc (.cells #[.slice a0 f.lk.length a0c, .slice a1 f.kn.length a1c, .slice a2 f.ow.length a2c, .slice a3 f.ln.length a3c] 25))) := (Since.start w).step ((Below.refl _ w).alloc (Nat.le_refl _) _)
  have HA0 : Hid (Bx4 (w.alloc (.cells #[.slice a0 f.lk.length a0c, .slice a1 f.kn.length a1c, .slice a2 f.ow.length a2c, .slice a3 f.ln.length a3c] 25)) w.heap.size (.slice a0 f.lk.length a0c) (.slice a1 f.kn.length a1c) (.slice a2 f.ow.length a2c) (.slice a3 f.ln.length a3c)) := Bx4.new _ _ _ _ _ _
  clear h hm
  go_enter Try.func4, Try.ntmps4
  go_wp2_with fail
  refine (szFlood_any _ _ _ _ _ f (HR.out _ HS0.out.1) HM.out).mono ?_
  rintro e w1 ⟨rfl, hb1⟩
  have HS1 : Hid (Since w.heap.size w w1) := HS0.out.step hb1
  have HA1 : Hid (Bx4 w1 w.heap.size (.slice a0 f.lk.length a0c) (.slice a1 f.kn.length a1c) (.slice a2 f.ow.length a2c) (.slice a3 f.ln.length a3c)) := HA0.out.below hb1
  clear hb1 HS0 HA0
  by_cases hle : szFl f < 0
  · generalize szFl f = sz at *
    go_wp2
    go_ret
    exact ⟨rfl, HS1.out.1⟩
  · have HF : Hid (FitF f) := szFl_fit f hle
    generalize szFl f = sz at *
    obtain ⟨g, k, hres⟩ := setR_ex f
    have HRES : Hid (SetR f g k) := hres
    have HG : Hid (FitF g) := setR_fit hres HF.out
    clear hres
    have HTO : Hid (∀ W, Since w.heap.size w W → Calls Try.prog 9 #[.agg #[.slice a0 f.lk.length a0c, .slice a1 f.kn.length a1c, .slice a2 f.ow.length a2c, .slice a3 f.ln.length a3c]] W fun e W' => ∃ x' y' z' l', e = .returned (.agg #[x', y', z', l']) ∧ (∃ xs ys zs, OwnF W' W.heap.size x' y' z' l' xs ys zs f) ∧ Below W.heap.size W W') := fun W hs => toFlood_any W _ _ _ _ f (HR.out W hs.1) HF.out
    have HP : Hid (∀ W B x y z l xs ys zs, OwnF W B x y z l xs ys zs f → Calls Try.prog 15 #[.agg #[x, y, z, l]] W fun e W' => ∃ x' y' z' l', e = .returned (.tuple #[.agg #[x', y', z', l'], .int .i64 (k : Int), .bool (goodF f)]) ∧ (∃ xs' ys' zs', OwnF W' W.heap.size x' y' z' l' xs' ys' zs' g) ∧ Below W.heap.size W W') := fun W B x y z l xs ys zs hu => specSettle_any W B x y z l xs ys zs f g k hu HF.out HRES.out
    have HI : Hid (∀ W B x y z l xs ys zs, OwnF W B x y z l xs ys zs f → Calls Try.prog 16 #[.agg #[x, y, z, l]] W fun e W' => ∃ x' y' z' l', e = .returned (.tuple #[.agg #[x', y', z', l'], .int .i64 (k : Int), .bool (goodF f)]) ∧ (∃ xs' ys' zs', OwnF W' W.heap.size x' y' z' l' xs' ys' zs' g) ∧ Below W.heap.size W W') := fun W B x y z l xs ys zs hu => implSettle_any W B x y z l xs ys zs f g k hu HF.out HRES.out
    generalize goodF f = ok at *
    obtain ⟨kk, hkk⟩ : ∃ kk : Int, kk = (k : Int) := ⟨_, rfl⟩
    rw [← hkk] at HP HI
    clear hkk
    obtain ⟨q, hq⟩ : ∃ q : Int, q = (endF g 1 : Int) := ⟨_, rfl⟩
    have HQ : Hid ((endF g 1 : Int) = q) := hq.symm
    have hq1 : ¬ q < 0 := by omega
    have hqq : (q != q) = false := by simp
    have hoo : (ok != ok) = false := by simp
    have hkq : (kk != kk) = false := by simp
    obtain ⟨p, hp⟩ : ∃ p : Int, p = (endF f 1 : Int) := ⟨_, rfl⟩
    have HPQ : Hid ((endF f 1 : Int) = p) := hp.symm
    have hp1 : decide (p < 0) = false := decide_eq_false (by omega)
    clear hq hp
    obtain ⟨t0, q0, q1, q2, q3, -⟩ := HA1.out
    go_wp2_with fail
    refine (HTO.out _ HS1.out).mono ?_
    rintro e w2 ⟨x2, y2, z2, l2, rfl, ⟨xs2, ys2, zs2, ho2⟩, hb2⟩
    have HS2 : Hid (Since w.heap.size w w2) := HS1.out.step hb2
    have HA2 : Hid (Bx4 w2 w.heap.size (.slice a0 f.lk.length a0c) (.slice a1 f.kn.length a1c) (.slice a2 f.ow.length a2c) (.slice a3 f.ln.length a3c)) := HA1.out.below hb2
    have HO2 : Hid (OwnF w2 w1.heap.size x2 y2 z2 l2 xs2 ys2 zs2 f) := ho2
    clear ho2 hb2 HS1 HA1 t0 q0 q1 q2 q3
    go_wp2_with fail
    refine (HP.out _ _ _ _ _ _ _ _ _ HO2.out).mono ?_
    rintro e w3 ⟨x3, y3, z3, l3, rfl, ⟨ws1, ws2, ws3, ho3⟩, hb3⟩
    obtain ⟨v0, v0c, rfl⟩ := ho3.lk.shape
    obtain ⟨v1, v1c, rfl⟩ := ho3.kn.shape
    obtain ⟨v2, v2c, rfl⟩ := ho3.ow.shape
    obtain ⟨v3, v3c, rfl⟩ := ho3.ln.shape
    obtain ⟨bw, hbw⟩ : ∃ b, b = w2.heap.size := ⟨_, rfl⟩
    rw [← hbw] at ho3
    have hB3 : Below w3.heap.size w3 (w3.alloc (.cells #[.slice v0 g.lk.length v0c, .slice v1 g.kn.length v1c, .slice v2 g.ow.length v2c, .slice v3 g.ln.length v3c] 31)) := (Below.refl _ w3).alloc (Nat.le_refl _) _
    have HS3 : Hid (Since w.heap.size w (w3.alloc (.cells #[.slice v0 g.lk.length v0c, .slice v1 g.kn.length v1c, .slice v2 g.ow.length v2c, .slice v3 g.ln.length v3c] 31))) := (HS2.out.step hb3).step hB3
    have HA3 : Hid (Bx4 (w3.alloc (.cells #[.slice v0 g.lk.length v0c, .slice v1 g.kn.length v1c, .slice v2 g.ow.length v2c, .slice v3 g.ln.length v3c] 31)) w.heap.size (.slice a0 f.lk.length a0c) (.slice a1 f.kn.length a1c) (.slice a2 f.ow.length a2c) (.slice a3 f.ln.length a3c)) := (HA2.out.below hb3).below hB3
    have HW0 : Hid (OwnF w3 bw (.slice v0 g.lk.length v0c) (.slice v1 g.kn.length v1c) (.slice v2 g.ow.length v2c) (.slice v3 g.ln.length v3c) ws1 ws2 ws3 g) := ho3
    obtain ⟨sw, hsw⟩ : ∃ b, b = w3.heap.size := ⟨_, rfl⟩
    have HW3 : Hid (OwnF (w3.alloc (.cells #[.slice v0 g.lk.length v0c, .slice v1 g.kn.length v1c, .slice v2 g.ow.length v2c, .slice v3 g.ln.length v3c] 31)) bw (.slice v0 g.lk.length v0c) (.slice v1 g.kn.length v1c) (.slice v2 g.ow.length v2c) (.slice v3 g.ln.length v3c) ws1 ws2 ws3 g) := ho3.below hB3
    have HWX3 : Hid (Bx4 (w3.alloc (.cells #[.slice v0 g.lk.length v0c, .slice v1 g.kn.length v1c, .slice v2 g.ow.length v2c, .slice v3 g.ln.length v3c] 31)) sw (.slice v0 g.lk.length v0c) (.slice v1 g.kn.length v1c) (.slice v2 g.ow.length v2c) (.slice v3 g.ln.length v3c)) := by rw [hsw]; exact Bx4.new _ _ _ _ _ _
    have HSW : Hid (sw = w3.heap.size) := hsw
    have hs3 : ((w3.alloc (.cells #[.slice v0 g.lk.length v0c, .slice v1 g.kn.length v1c, .slice v2 g.ow.length v2c, .slice v3 g.ln.length v3c] 31))).heap.size = w3.heap.size + 1 := by simp
    have hws : w.heap.size ≤ w3.heap.size := by have := HS3.out.2; have := (HS2.out.step hb3).2; omega
    obtain ⟨sA, hsA⟩ : ∃ b, b = ((w3.alloc (.cells #[.slice v0 g.lk.length v0c, .slice v1 g.kn.length v1c, .slice v2 g.ow.length v2c, .slice v3 g.ln.length v3c] 31))).heap.size := ⟨_, rfl⟩
    have HAS : Hid (sA = w3.heap.size + 1 ∧ w.heap.size ≤ w3.heap.size) := ⟨by rw [hsA, hs3], hws⟩
    obtain ⟨t0, q0, q1, q2, q3, -⟩ := HA3.out
    clear ho3 hb3 hbw hs3 hws hB3 HS2 HA2 HO2 HP
    go_wp2_with fail
    refine (HTO.out _ HS3.out).mono ?_
    rintro e w4 ⟨x4, y4, z4, l4, rfl, ⟨xs1, xs2, xs3, ho4⟩, hb4⟩
    obtain ⟨x0, x0c, rfl⟩ := ho4.lk.shape
    obtain ⟨x1, x1c, rfl⟩ := ho4.kn.shape
    obtain ⟨x2, x2c, rfl⟩ := ho4.ow.shape
    obtain ⟨x3, x3c, rfl⟩ := ho4.ln.shape
    rw [← hsA] at ho4
    obtain ⟨bx, hbx⟩ : ∃ b, b = sA := ⟨_, rfl⟩
    rw [← hbx] at ho4
    have HLX : Hid (∀ b, InF (.slice x3 f.ln.length x3c) xs1 xs2 xs3 b → w3.heap.size + 1 ≤ b ∧ b < w4.heap.size) := fun b hb => by have := ho4.inLt b hb; have := HAS.out.1; omega
    have hB4 : Below w4.heap.size w4 (w4.alloc (.cells #[.slice x0 f.lk.length x0c, .slice x1 f.kn.length x1c, .slice x2 f.ow.length x2c, .slice x3 f.ln.length x3c] 31)) := (Below.refl _ w4).alloc (Nat.le_refl _) _
    obtain ⟨sx, hsx⟩ : ∃ b, b = w4.heap.size := ⟨_, rfl⟩
    have HSX : Hid (sx = w4.heap.size) := hsx
    have h34 : w3.heap.size + 1 ≤ w4.heap.size := by have := hb4.size; have := HAS.out.1; omega
    have HS4 : Hid (Since w.heap.size w (w4.alloc (.cells #[.slice x0 f.lk.length x0c, .slice x1 f.kn.length x1c, .slice x2 f.ow.length x2c, .slice x3 f.ln.length x3c] 31))) := (HS3.out.step hb4).step hB4
    have HA4 : Hid (Bx4 (w4.alloc (.cells #[.slice x0 f.lk.length x0c, .slice x1 f.kn.length x1c, .slice x2 f.ow.length x2c, .slice x3 f.ln.length x3c] 31)) w.heap.size (.slice a0 f.lk.length a0c) (.slice a1 f.kn.length a1c) (.slice a2 f.ow.length a2c) (.slice a3 f.ln.length a3c)) := (HA3.out.below hb4).below hB4
    have HW4 : Hid (OwnF (w4.alloc (.cells #[.slice x0 f.lk.length x0c, .slice x1 f.kn.length x1c, .slice x2 f.ow.length x2c, .slice x3 f.ln.length x3c] 31)) bw (.slice v0 g.lk.length v0c) (.slice v1 g.kn.length v1c) (.slice v2 g.ow.length v2c) (.slice v3 g.ln.length v3c) ws1 ws2 ws3 g) := (HW3.out.below hb4).below hB4
    have HWX4 : Hid (Bx4 (w4.alloc (.cells #[.slice x0 f.lk.length x0c, .slice x1 f.kn.length x1c, .slice x2 f.ow.length x2c, .slice x3 f.ln.length x3c] 31)) sw (.slice v0 g.lk.length v0c) (.slice v1 g.kn.length v1c) (.slice v2 g.ow.length v2c) (.slice v3 g.ln.length v3c)) := (HWX3.out.below hb4).below hB4
    have HX4 : Hid (OwnF (w4.alloc (.cells #[.slice x0 f.lk.length x0c, .slice x1 f.kn.length x1c, .slice x2 f.ow.length x2c, .slice x3 f.ln.length x3c] 31)) bx (.slice x0 f.lk.length x0c) (.slice x1 f.kn.length x1c) (.slice x2 f.ow.length x2c) (.slice x3 f.ln.length x3c) xs1 xs2 xs3 f) := ho4.below hB4
    have HXX4 : Hid (Bx4 (w4.alloc (.cells #[.slice x0 f.lk.length x0c, .slice x1 f.kn.length x1c, .slice x2 f.ow.length x2c, .slice x3 f.ln.length x3c] 31)) sx (.slice x0 f.lk.length x0c) (.slice x1 f.kn.length x1c) (.slice x2 f.ow.length x2c) (.slice x3 f.ln.length x3c)) := by rw [hsx]; exact Bx4.new _ _ _ _ _ _
    have hs4 : ((w4.alloc (.cells #[.slice x0 f.lk.length x0c, .slice x1 f.kn.length x1c, .slice x2 f.ow.length x2c, .slice x3 f.ln.length x3c] 31))).heap.size = w4.heap.size + 1 := by simp
    obtain ⟨sB, hsB⟩ : ∃ b, b = ((w4.alloc (.cells #[.slice x0 f.lk.length x0c, .slice x1 f.kn.length x1c, .slice x2 f.ow.length x2c, .slice x3 f.ln.length x3c] 31))).heap.size := ⟨_, rfl⟩
    have HBS : Hid (sB = w4.heap.size + 1) := (show sB = w4.heap.size + 1 by rw [hsB, hs4])
    clear ho4 hb4 hB4 hs4 hsA hbx HS3 HA3 HW3 HWX3 t0 q0 q1 q2 q3
    rw [hsx] at HXX4
    obtain ⟨t0, q0, q1, q2, q3, -⟩ := HXX4.out
    go_wp2_with fail
    refine (HI.out _ _ _ _ _ _ _ _ _ HX4.out).mono ?_
    clear t0 q0 q1 q2 q3
    rintro e w5 ⟨x5, y5, z5, l5, rfl, ⟨gs1, gs2, gs3, ho5⟩, hb5⟩
    obtain ⟨g0, g0c, rfl⟩ := ho5.lk.shape
    obtain ⟨g1, g1c, rfl⟩ := ho5.kn.shape
    obtain ⟨g2, g2c, rfl⟩ := ho5.ow.shape
    obtain ⟨g3, g3c, rfl⟩ := ho5.ln.shape
    rw [← hsB] at ho5
    obtain ⟨bg, hbg⟩ : ∃ b, b = sB := ⟨_, rfl⟩
    rw [← hbg] at ho5
    have HLG : Hid (∀ b, InF (.slice g3 g.ln.length g3c) gs1 gs2 gs3 b → w4.heap.size + 1 ≤ b ∧ b < w5.heap.size) := fun b hb => by have := ho5.inLt b hb; have := HBS.out; omega
    have hB5 : Below w5.heap.size w5 (w5.alloc (.cells #[.slice g0 g.lk.length g0c, .slice g1 g.kn.length g1c, .slice g2 g.ow.length g2c, .slice g3 g.ln.length g3c] 31)) := (Below.refl _ w5).alloc (Nat.le_refl _) _
    have h45 : w4.heap.size + 1 ≤ w5.heap.size := by have := hb5.size; have := HBS.out; omega
    obtain ⟨sg, hsg⟩ : ∃ b, b = w5.heap.size := ⟨_, rfl⟩
    rw [← hsx] at HXX4
    have HBG : Hid (bg = w4.heap.size + 1) := (show bg = w4.heap.size + 1 by have := HBS.out; omega)
    have HS5 : Hid (Since w.heap.size w (w5.alloc (.cells #[.slice g0 g.lk.length g0c, .slice g1 g.kn.length g1c, .slice g2 g.ow.length g2c, .slice g3 g.ln.length g3c] 31))) := (HS4.out.step hb5).step hB5
    have HA5 : Hid (Bx4 (w5.alloc (.cells #[.slice g0 g.lk.length g0c, .slice g1 g.kn.length g1c, .slice g2 g.ow.length g2c, .slice g3 g.ln.length g3c] 31)) w.heap.size (.slice a0 f.lk.length a0c) (.slice a1 f.kn.length a1c) (.slice a2 f.ow.length a2c) (.slice a3 f.ln.length a3c)) := (HA4.out.below hb5).below hB5
    have HW5 : Hid (OwnF (w5.alloc (.cells #[.slice g0 g.lk.length g0c, .slice g1 g.kn.length g1c, .slice g2 g.ow.length g2c, .slice g3 g.ln.length g3c] 31)) bw (.slice v0 g.lk.length v0c) (.slice v1 g.kn.length v1c) (.slice v2 g.ow.length v2c) (.slice v3 g.ln.length v3c) ws1 ws2 ws3 g) := (HW4.out.below hb5).below hB5
    have HWX5 : Hid (Bx4 (w5.alloc (.cells #[.slice g0 g.lk.length g0c, .slice g1 g.kn.length g1c, .slice g2 g.ow.length g2c, .slice g3 g.ln.length g3c] 31)) sw (.slice v0 g.lk.length v0c) (.slice v1 g.kn.length v1c) (.slice v2 g.ow.length v2c) (.slice v3 g.ln.length v3c)) := (HWX4.out.below hb5).below hB5
    have HX5 : Hid (OwnF (w5.alloc (.cells #[.slice g0 g.lk.length g0c, .slice g1 g.kn.length g1c, .slice g2 g.ow.length g2c, .slice g3 g.ln.length g3c] 31)) bx (.slice x0 f.lk.length x0c) (.slice x1 f.kn.length x1c) (.slice x2 f.ow.length x2c) (.slice x3 f.ln.length x3c) xs1 xs2 xs3 f) := (HX4.out.below hb5).below hB5
    have HXX5 : Hid (Bx4 (w5.alloc (.cells #[.slice g0 g.lk.length g0c, .slice g1 g.kn.length g1c, .slice g2 g.ow.length g2c, .slice g3 g.ln.length g3c] 31)) sx (.slice x0 f.lk.length x0c) (.slice x1 f.kn.length x1c) (.slice x2 f.ow.length x2c) (.slice x3 f.ln.length x3c)) := (HXX4.out.below hb5).below hB5
    have HG5 : Hid (OwnF (w5.alloc (.cells #[.slice g0 g.lk.length g0c, .slice g1 g.kn.length g1c, .slice g2 g.ow.length g2c, .slice g3 g.ln.length g3c] 31)) bg (.slice g0 g.lk.length g0c) (.slice g1 g.kn.length g1c) (.slice g2 g.ow.length g2c) (.slice g3 g.ln.length g3c) gs1 gs2 gs3 g) := ho5.below hB5
    have HGX5 : Hid (Bx4 (w5.alloc (.cells #[.slice g0 g.lk.length g0c, .slice g1 g.kn.length g1c, .slice g2 g.ow.length g2c, .slice g3 g.ln.length g3c] 31)) sg (.slice g0 g.lk.length g0c) (.slice g1 g.kn.length g1c) (.slice g2 g.ow.length g2c) (.slice g3 g.ln.length g3c)) := by rw [hsg]; exact Bx4.new _ _ _ _ _ _
    clear ho5 hb5 hB5 hbg hsB HS4 HA4 HW4 HWX4 HX4 HXX4
    rw [hsw] at HWX5
    rw [hsx] at HXX5
    rw [hsg] at HGX5
    clear hsx hsg hsw
    obtain ⟨m1, q10, q11, q12, q13, -⟩ := HWX5.out
    obtain ⟨m2, q20, q21, q22, q23, -⟩ := HGX5.out
    go_wp2_with fail
    refine (eqFlood_same _ _ _ _ _ _ _ _ _ g HG5.out.reads HW5.out.reads HG.out).mono ?_
    clear m1 q10 q11 q12 q13 m2 q20 q21 q22 q23
    rintro e w6 ⟨rfl, hb6⟩
    have HS6 : Hid (Since w.heap.size w w6) := HS5.out.step hb6
    have HA6 : Hid (Bx4 w6 w.heap.size (.slice a0 f.lk.length a0c) (.slice a1 f.kn.length a1c) (.slice a2 f.ow.length a2c) (.slice a3 f.ln.length a3c)) := HA5.out.below hb6
    have HW6 : Hid (OwnF w6 bw (.slice v0 g.lk.length v0c) (.slice v1 g.kn.length v1c) (.slice v2 g.ow.length v2c) (.slice v3 g.ln.length v3c) ws1 ws2 ws3 g) := HW5.out.below hb6
    have HWX6 : Hid (Bx4 w6 w3.heap.size (.slice v0 g.lk.length v0c) (.slice v1 g.kn.length v1c) (.slice v2 g.ow.length v2c) (.slice v3 g.ln.length v3c)) := HWX5.out.below hb6
    have HX6 : Hid (OwnF w6 bx (.slice x0 f.lk.length x0c) (.slice x1 f.kn.length x1c) (.slice x2 f.ow.length x2c) (.slice x3 f.ln.length x3c) xs1 xs2 xs3 f) := HX5.out.below hb6
    have HXX6 : Hid (Bx4 w6 w4.heap.size (.slice x0 f.lk.length x0c) (.slice x1 f.kn.length x1c) (.slice x2 f.ow.length x2c) (.slice x3 f.ln.length x3c)) := HXX5.out.below hb6
    have HG6 : Hid (OwnF w6 bg (.slice g0 g.lk.length g0c) (.slice g1 g.kn.length g1c) (.slice g2 g.ow.length g2c) (.slice g3 g.ln.length g3c) gs1 gs2 gs3 g) := HG5.out.below hb6
    have HGX6 : Hid (Bx4 w6 w5.heap.size (.slice g0 g.lk.length g0c) (.slice g1 g.kn.length g1c) (.slice g2 g.ow.length g2c) (.slice g3 g.ln.length g3c)) := HGX5.out.below hb6
    clear hb6 HS5 HA5 HW5 HWX5 HX5 HXX5 HG5 HGX5
    go_wp2
    have HSd : Hid (Since w.heap.size w w6.drew) := HS6.out.drew
    have HAd : Hid (Bx4 w6.drew w.heap.size (.slice a0 f.lk.length a0c) (.slice a1 f.kn.length a1c) (.slice a2 f.ow.length a2c) (.slice a3 f.ln.length a3c)) := HA6.out.below (Below.refl _ _).drew
    have HWd : Hid (OwnF w6.drew bw (.slice v0 g.lk.length v0c) (.slice v1 g.kn.length v1c) (.slice v2 g.ow.length v2c) (.slice v3 g.ln.length v3c) ws1 ws2 ws3 g) := HW6.out.below (Below.refl _ _).drew
    have HWXd : Hid (Bx4 w6.drew w3.heap.size (.slice v0 g.lk.length v0c) (.slice v1 g.kn.length v1c) (.slice v2 g.ow.length v2c) (.slice v3 g.ln.length v3c)) := HWX6.out.below (Below.refl _ _).drew
    have HXd : Hid (OwnF w6.drew bx (.slice x0 f.lk.length x0c) (.slice x1 f.kn.length x1c) (.slice x2 f.ow.length x2c) (.slice x3 f.ln.length x3c) xs1 xs2 xs3 f) := HX6.out.below (Below.refl _ _).drew
    have HXXd : Hid (Bx4 w6.drew w4.heap.size (.slice x0 f.lk.length x0c) (.slice x1 f.kn.length x1c) (.slice x2 f.ow.length x2c) (.slice x3 f.ln.length x3c)) := HXX6.out.below (Below.refl _ _).drew
    have HGd : Hid (OwnF w6.drew bg (.slice g0 g.lk.length g0c) (.slice g1 g.kn.length g1c) (.slice g2 g.ow.length g2c) (.slice g3 g.ln.length g3c) gs1 gs2 gs3 g) := HG6.out.below (Below.refl _ _).drew
    have HGXd : Hid (Bx4 w6.drew w5.heap.size (.slice g0 g.lk.length g0c) (.slice g1 g.kn.length g1c) (.slice g2 g.ow.length g2c) (.slice g3 g.ln.length g3c)) := HGX6.out.below (Below.refl _ _).drew
    refine wp_region_held_drew (S := (fun w' => (w'.cell? ⟨w4.heap.size, 0, none⟩ = some (.slice x0 f.lk.length x0c) ∧ w'.cell? ⟨w4.heap.size, 1, none⟩ = some (.slice x1 f.kn.length x1c) ∧ w'.cell? ⟨w4.heap.size, 2, none⟩ = some (.slice x2 f.ow.length x2c) ∧ w'.cell? ⟨w4.heap.size, 3, none⟩ = some (.slice x3 f.ln.length x3c)) ∧ (w'.cell? ⟨w.heap.size, 0, none⟩ = some (.slice a0 f.lk.length a0c) ∧ w'.cell? ⟨w.heap.size, 1, none⟩ = some (.slice a1 f.kn.length a1c) ∧ w'.cell? ⟨w.heap.size, 2, none⟩ = some (.slice a2 f.ow.length a2c) ∧ w'.cell? ⟨w.heap.size, 3, none⟩ = some (.slice a3 f.ln.length a3c)))) (by kernel_rfl) ?_ (fun hHeld => ?_)
    · exact ⟨HXXd.out.cells, HAd.out.cells⟩
    clear HS6 HA6 HW6 HWX6 HX6 HXX6 HG6 HGX6
    generalize w6.drew = wd at *
    refine handRead 0 (some 51) (.agg #[.slice x0 f.lk.length x0c, .slice x1 f.kn.length x1c, .slice x2 f.ow.length x2c, .slice x3 f.ln.length x3c]) rfl rfl (by kernel_rfl) (by kernel_rfl) (by kernel_rfl) (fun _ _ _ h => h) (by kernel_rfl) (by assumption) ?_ ?_
    · intro w hSw
      (try dsimp only at hSw)
      go_simp
    simp only [Act.put, List.setIfInBounds_toArray, List.set_cons_zero, List.set_cons_succ]
    refine handRead 1 (some 52) (.agg #[.slice a0 f.lk.length a0c, .slice a1 f.kn.length a1c, .slice a2 f.ow.length a2c, .slice a3 f.ln.length a3c]) rfl rfl (by kernel_rfl) (by kernel_rfl) (by kernel_rfl) (fun _ _ _ h => h) (by kernel_rfl) (by assumption) ?_ ?_
    · intro w hSw
      (try dsimp only at hSw)
      go_simp
    simp only [Act.put, List.setIfInBounds_toArray, List.set_cons_zero, List.set_cons_succ]
    refine wpAnyH_ready (rs := [2]) (by kernel_rfl) (by simp) ?_
    refine AllReadyH.cons rfl (fun K hK => ?_) AllReadyH.nil
    refine step_go (by rfl) 9 #[.agg #[.slice a0 f.lk.length a0c, .slice a1 f.kn.length a1c, .slice a2 f.ow.length a2c, .slice a3 f.ln.length a3c]] (by simp [go_sem]) ((HTO.out _ HSd.out).mono ?_)
    rintro e w7 ⟨x7, y7, z7, l7, rfl, ⟨xs7, ys7, zs7, ho7⟩, hb7⟩
    refine ⟨_, rfl, ?_⟩
    obtain ⟨u0, u0c, rfl⟩ := ho7.lk.shape
    obtain ⟨u1, u1c, rfl⟩ := ho7.kn.shape
    obtain ⟨u2, u2c, rfl⟩ := ho7.ow.shape
    obtain ⟨u3, u3c, rfl⟩ := ho7.ln.shape
    have HRU : Hid (ReadsF w7 (.slice u0 f.lk.length u0c) (.slice u1 f.kn.length u1c) (.slice u2 f.ow.length u2c) (.slice u3 f.ln.length u3c) f) := ho7.reads
    have HS7 : Hid (Since w.heap.size w w7) := HSd.out.step hb7
    have HA7 : Hid (Bx4 w7 w.heap.size (.slice a0 f.lk.length a0c) (.slice a1 f.kn.length a1c) (.slice a2 f.ow.length a2c) (.slice a3 f.ln.length a3c)) := HAd.out.below hb7
    have HW7 : Hid (OwnF w7 bw (.slice v0 g.lk.length v0c) (.slice v1 g.kn.length v1c) (.slice v2 g.ow.length v2c) (.slice v3 g.ln.length v3c) ws1 ws2 ws3 g) := HWd.out.below hb7
    have HWX7 : Hid (Bx4 w7 w3.heap.size (.slice v0 g.lk.length v0c) (.slice v1 g.kn.length v1c) (.slice v2 g.ow.length v2c) (.slice v3 g.ln.length v3c)) := HWXd.out.below hb7
    have HX7 : Hid (OwnF w7 bx (.slice x0 f.lk.length x0c) (.slice x1 f.kn.length x1c) (.slice x2 f.ow.length x2c) (.slice x3 f.ln.length x3c) xs1 xs2 xs3 f) := HXd.out.below hb7
    have HXX7 : Hid (Bx4 w7 w4.heap.size (.slice x0 f.lk.length x0c) (.slice x1 f.kn.length x1c) (.slice x2 f.ow.length x2c) (.slice x3 f.ln.length x3c)) := HXXd.out.below hb7
    have HG7 : Hid (OwnF w7 bg (.slice g0 g.lk.length g0c) (.slice g1 g.kn.length g1c) (.slice g2 g.ow.length g2c) (.slice g3 g.ln.length g3c) gs1 gs2 gs3 g) := HGd.out.below hb7
    have HGX7 : Hid (Bx4 w7 w5.heap.size (.slice g0 g.lk.length g0c) (.slice g1 g.kn.length g1c) (.slice g2 g.ow.length g2c) (.slice g3 g.ln.length g3c)) := HGXd.out.below hb7
    clear ho7 hb7 HSd HAd HWd HWXd HXd HXXd HGd HGXd
    refine hK.out _ _ (by exact ⟨HXX7.out.cells, HA7.out.cells⟩) (fun hHeld => ?_)
    clear hK K
    try simp only [Act.put, List.setIfInBounds_toArray]
    refine wpAnyH_ready (rs := [3]) (by kernel_rfl) (by simp) ?_
    refine AllReadyH.cons rfl (fun K hK => ?_) AllReadyH.nil
    refine step_go (by rfl) 12 #[.agg #[.slice x0 f.lk.length x0c, .slice x1 f.kn.length x1c, .slice x2 f.ow.length x2c, .slice x3 f.ln.length x3c], .agg #[.slice u0 f.lk.length u0c, .slice u1 f.kn.length u1c, .slice u2 f.ow.length u2c, .slice u3 f.ln.length u3c]] (by simp [go_sem]) ((eqFlood_same _ _ _ _ _ _ _ _ _ f HX7.out.reads HRU.out HF.out).mono ?_)
    rintro e w8 ⟨rfl, hb8⟩
    refine ⟨_, rfl, ?_⟩
    have HS8 : Hid (Since w.heap.size w w8) := HS7.out.step hb8
    have HA8 : Hid (Bx4 w8 w.heap.size (.slice a0 f.lk.length a0c) (.slice a1 f.kn.length a1c) (.slice a2 f.ow.length a2c) (.slice a3 f.ln.length a3c)) := HA7.out.below hb8
    have HW8 : Hid (OwnF w8 bw (.slice v0 g.lk.length v0c) (.slice v1 g.kn.length v1c) (.slice v2 g.ow.length v2c) (.slice v3 g.ln.length v3c) ws1 ws2 ws3 g) := HW7.out.below hb8
    have HWX8 : Hid (Bx4 w8 w3.heap.size (.slice v0 g.lk.length v0c) (.slice v1 g.kn.length v1c) (.slice v2 g.ow.length v2c) (.slice v3 g.ln.length v3c)) := HWX7.out.below hb8
    have HX8 : Hid (OwnF w8 bx (.slice x0 f.lk.length x0c) (.slice x1 f.kn.length x1c) (.slice x2 f.ow.length x2c) (.slice x3 f.ln.length x3c) xs1 xs2 xs3 f) := HX7.out.below hb8
    have HXX8 : Hid (Bx4 w8 w4.heap.size (.slice x0 f.lk.length x0c) (.slice x1 f.kn.length x1c) (.slice x2 f.ow.length x2c) (.slice x3 f.ln.length x3c)) := HXX7.out.below hb8
    have HG8 : Hid (OwnF w8 bg (.slice g0 g.lk.length g0c) (.slice g1 g.kn.length g1c) (.slice g2 g.ow.length g2c) (.slice g3 g.ln.length g3c) gs1 gs2 gs3 g) := HG7.out.below hb8
    have HGX8 : Hid (Bx4 w8 w5.heap.size (.slice g0 g.lk.length g0c) (.slice g1 g.kn.length g1c) (.slice g2 g.ow.length g2c) (.slice g3 g.ln.length g3c)) := HGX7.out.below hb8
    clear hb8 HS7 HA7 HW7 HWX7 HX7 HXX7 HG7 HGX7 HRU
    refine hK.out _ _ (by exact ⟨HXX8.out.cells, HA8.out.cells⟩) (fun hHeld => ?_)
    clear hK K
    try simp only [Act.put]
    refine handRead 4 (some 55) (.bool false) rfl rfl (by kernel_rfl) (by kernel_rfl) (by kernel_rfl) (fun _ _ _ h => h) (by kernel_rfl) (by assumption) ?_ ?_
    · intro w hSw
      (try dsimp only at hSw)
      go_simp
    simp only [Act.put]
    refine wpAnyH_done (by kernel_rfl) ?_ _
    clear hHeld
    obtain ⟨m2, q20, q21, q22, q23, -⟩ := HXX8.out
    have CMK : Hid (Calls Try.prog 13 #[.agg #[.slice x0 f.lk.length x0c, .slice x1 f.kn.length x1c, .slice x2 f.ow.length x2c, .slice x3 f.ln.length x3c], .int .i64 1] w8 fun e W' => e = .returned (.int .i64 p) ∧ Turned (InF (.slice x3 f.ln.length x3c) xs1 xs2 xs3) w8 W') := (markFlood_any w8 _ _ _ _ _ xs1 xs2 xs3 f 1 HX8.out HF.out (by omega)).mono fun e W' ⟨he, _, ht⟩ => ⟨by rw [he, HPQ.out], ht⟩
    go_wp2_with fail
    refine CMK.out.mono ?_
    clear m2 q20 q21 q22 q23
    rintro e w9 ⟨rfl, ht9⟩
    have HS9 : Hid (Since w.heap.size w w9) := HS8.out.turned ht9 (fun b hb => by have := (HLX.out b hb).1; have := HAS.out.2; omega)
    have HA9 : Hid (Bx4 w9 w.heap.size (.slice a0 f.lk.length a0c) (.slice a1 f.kn.length a1c) (.slice a2 f.ow.length a2c) (.slice a3 f.ln.length a3c)) := HA8.out.same (ht9.block _ HA8.out.lt (fun hb => by have := (HLX.out _ hb).1; have := HAS.out.2; omega)) ht9.size
    have HG9 : Hid (OwnF w9 bg (.slice g0 g.lk.length g0c) (.slice g1 g.kn.length g1c) (.slice g2 g.ow.length g2c) (.slice g3 g.ln.length g3c) gs1 gs2 gs3 g) := HG8.out.turned ht9 (fun b hb hh => by have := (HLX.out b hb).2; have := HBG.out; omega)
    have HGX9 : Hid (Bx4 w9 w5.heap.size (.slice g0 g.lk.length g0c) (.slice g1 g.kn.length g1c) (.slice g2 g.ow.length g2c) (.slice g3 g.ln.length g3c)) := HGX8.out.same (ht9.block _ HGX8.out.lt (fun hb => by have := (HLX.out _ hb).2; omega)) ht9.size
    have HW9 : Hid (OwnF w9 bw (.slice v0 g.lk.length v0c) (.slice v1 g.kn.length v1c) (.slice v2 g.ow.length v2c) (.slice v3 g.ln.length v3c) ws1 ws2 ws3 g) := ownF_turned2 HW8.out HW0.out ht9 (fun b hb => by have := (HLX.out b hb).1; omega)
    have HWX9 : Hid (Bx4 w9 w3.heap.size (.slice v0 g.lk.length v0c) (.slice v1 g.kn.length v1c) (.slice v2 g.ow.length v2c) (.slice v3 g.ln.length v3c)) := HWX8.out.same (ht9.block _ HWX8.out.lt (fun hb => by have := (HLX.out _ hb).1; omega)) ht9.size
    clear ht9 HS8 HA8 HW8 HWX8 HX8 HXX8 HG8 HGX8 CMK
    obtain ⟨m1, q10, q11, q12, q13, -⟩ := HWX9.out
    obtain ⟨m2, q20, q21, q22, q23, -⟩ := HGX9.out
    go_wp2_with fail
    refine (eqFlood_same _ _ _ _ _ _ _ _ _ g HG9.out.reads HW9.out.reads HG.out).mono ?_
    clear m1 q10 q11 q12 q13 m2 q20 q21 q22 q23
    rintro e w10 ⟨rfl, hb10⟩
    have HS10 : Hid (Since w.heap.size w w10) := HS9.out.step hb10
    have HA10 : Hid (Bx4 w10 w.heap.size (.slice a0 f.lk.length a0c) (.slice a1 f.kn.length a1c) (.slice a2 f.ow.length a2c) (.slice a3 f.ln.length a3c)) := HA9.out.below hb10
    have HW10 : Hid (OwnF w10 bw (.slice v0 g.lk.length v0c) (.slice v1 g.kn.length v1c) (.slice v2 g.ow.length v2c) (.slice v3 g.ln.length v3c) ws1 ws2 ws3 g) := HW9.out.below hb10
    have HWX10 : Hid (Bx4 w10 w3.heap.size (.slice v0 g.lk.length v0c) (.slice v1 g.kn.length v1c) (.slice v2 g.ow.length v2c) (.slice v3 g.ln.length v3c)) := HWX9.out.below hb10
    have HG10 : Hid (OwnF w10 bg (.slice g0 g.lk.length g0c) (.slice g1 g.kn.length g1c) (.slice g2 g.ow.length g2c) (.slice g3 g.ln.length g3c) gs1 gs2 gs3 g) := HG9.out.below hb10
    have HGX10 : Hid (Bx4 w10 w5.heap.size (.slice g0 g.lk.length g0c) (.slice g1 g.kn.length g1c) (.slice g2 g.ow.length g2c) (.slice g3 g.ln.length g3c)) := HGX9.out.below hb10
    clear hb10 HS9 HA9 HW9 HWX9 HG9 HGX9
    obtain ⟨m2, q20, q21, q22, q23, -⟩ := HGX10.out
    have CMF : Hid (Calls Try.prog 13 #[.agg #[.slice g0 g.lk.length g0c, .slice g1 g.kn.length g1c, .slice g2 g.ow.length g2c, .slice g3 g.ln.length g3c], .int .i64 1] w10 fun e W' => e = .returned (.int .i64 q) ∧ OwnF W' bg (.slice g0 g.lk.length g0c) (.slice g1 g.kn.length g1c) (.slice g2 g.ow.length g2c) (.slice g3 g.ln.length g3c) gs1 gs2 gs3 (markF g 1) ∧ Turned (InF (.slice g3 g.ln.length g3c) gs1 gs2 gs3) w10 W') := (markFlood_any w10 _ _ _ _ _ gs1 gs2 gs3 g 1 HG10.out HG.out (by omega)).mono fun e W' ⟨he, ht⟩ => ⟨by rw [he, HQ.out], ht⟩
    go_wp2_with fail
    refine CMF.out.mono ?_
    clear m2 q20 q21 q22 q23
    rintro e w11 ⟨rfl, ho11, ht11⟩
    have HS11 : Hid (Since w.heap.size w w11) := HS10.out.turned ht11 (fun b hb => by have := (HLG.out b hb).1; have := HAS.out.2; omega)
    have HA11 : Hid (Bx4 w11 w.heap.size (.slice a0 f.lk.length a0c) (.slice a1 f.kn.length a1c) (.slice a2 f.ow.length a2c) (.slice a3 f.ln.length a3c)) := HA10.out.same (ht11.block _ HA10.out.lt (fun hb => by have := (HLG.out _ hb).1; have := HAS.out.2; omega)) ht11.size
    have HGM11 : Hid (OwnF w11 bg (.slice g0 g.lk.length g0c) (.slice g1 g.kn.length g1c) (.slice g2 g.ow.length g2c) (.slice g3 g.ln.length g3c) gs1 gs2 gs3 (markF g 1)) := ho11
    have HGX11 : Hid (Bx4 w11 w5.heap.size (.slice g0 g.lk.length g0c) (.slice g1 g.kn.length g1c) (.slice g2 g.ow.length g2c) (.slice g3 g.ln.length g3c)) := HGX10.out.same (ht11.block _ HGX10.out.lt (fun hb => by have := (HLG.out _ hb).2; omega)) ht11.size
    have HW11 : Hid (OwnF w11 bw (.slice v0 g.lk.length v0c) (.slice v1 g.kn.length v1c) (.slice v2 g.ow.length v2c) (.slice v3 g.ln.length v3c) ws1 ws2 ws3 g) := ownF_turned2 HW10.out HW0.out ht11 (fun b hb => by have := (HLG.out b hb).1; omega)
    have HWX11 : Hid (Bx4 w11 w3.heap.size (.slice v0 g.lk.length v0c) (.slice v1 g.kn.length v1c) (.slice v2 g.ow.length v2c) (.slice v3 g.ln.length v3c)) := HWX10.out.same (ht11.block _ HWX10.out.lt (fun hb => by have := (HLG.out _ hb).1; omega)) ht11.size
    clear ho11 ht11 HS10 HA10 HW10 HWX10 HG10 HGX10 CMF
    obtain ⟨m2, q20, q21, q22, q23, -⟩ := HGX11.out
    have CHF : Hid (∀ W', ReadsF W' (.slice g0 g.lk.length g0c) (.slice g1 g.kn.length g1c) (.slice g2 g.ow.length g2c) (.slice g3 g.ln.length g3c) (markF g 1) → Calls Try.prog 14 #[.agg #[.slice g0 g.lk.length g0c, .slice g1 g.kn.length g1c, .slice g2 g.ow.length g2c, .slice g3 g.ln.length g3c], .int .i64 1] W' fun e W'' => e = .returned (.int .i64 q) ∧ Below W'.heap.size W' W'') := fun W' hr => (heldFlood_yes W' _ _ _ _ g 1 hr HG.out (by omega)).mono fun e W'' ⟨he, ht⟩ => ⟨by rw [he, HQ.out], ht⟩
    go_wp2_with fail
    refine (CHF.out _ HGM11.out.reads).mono ?_
    clear m2 q20 q21 q22 q23
    rintro e w12 ⟨rfl, hb12⟩
    have HS12 : Hid (Since w.heap.size w w12) := HS11.out.step hb12
    have HA12 : Hid (Bx4 w12 w.heap.size (.slice a0 f.lk.length a0c) (.slice a1 f.kn.length a1c) (.slice a2 f.ow.length a2c) (.slice a3 f.ln.length a3c)) := HA11.out.below hb12
    have HW12 : Hid (OwnF w12 bw (.slice v0 g.lk.length v0c) (.slice v1 g.kn.length v1c) (.slice v2 g.ow.length v2c) (.slice v3 g.ln.length v3c) ws1 ws2 ws3 g) := HW11.out.below hb12
    have HWX12 : Hid (Bx4 w12 w3.heap.size (.slice v0 g.lk.length v0c) (.slice v1 g.kn.length v1c) (.slice v2 g.ow.length v2c) (.slice v3 g.ln.length v3c)) := HWX11.out.below hb12
    have HGM12 : Hid (OwnF w12 bg (.slice g0 g.lk.length g0c) (.slice g1 g.kn.length g1c) (.slice g2 g.ow.length g2c) (.slice g3 g.ln.length g3c) gs1 gs2 gs3 (markF g 1)) := HGM11.out.below hb12
    have HGX12 : Hid (Bx4 w12 w5.heap.size (.slice g0 g.lk.length g0c) (.slice g1 g.kn.length g1c) (.slice g2 g.ow.length g2c) (.slice g3 g.ln.length g3c)) := HGX11.out.below hb12
    clear hb12 HS11 HA11 HW11 HWX11 HGM11 HGX11
    obtain ⟨t0, q0, q1, q2, q3, -⟩ := HA12.out
    go_wp2_with fail
    refine (HTO.out _ HS12.out).mono ?_
    clear t0 q0 q1 q2 q3
    rintro e w13 ⟨x13, y13, z13, l13, rfl, ⟨xs13, ys13, zs13, ho13⟩, hb13⟩
    have HO13 : Hid (OwnF w13 w12.heap.size x13 y13 z13 l13 xs13 ys13 zs13 f) := ho13
    have HS13 : Hid (Since w.heap.size w w13) := HS12.out.step hb13
    have HW13 : Hid (OwnF w13 bw (.slice v0 g.lk.length v0c) (.slice v1 g.kn.length v1c) (.slice v2 g.ow.length v2c) (.slice v3 g.ln.length v3c) ws1 ws2 ws3 g) := HW12.out.below hb13
    have HWX13 : Hid (Bx4 w13 w3.heap.size (.slice v0 g.lk.length v0c) (.slice v1 g.kn.length v1c) (.slice v2 g.ow.length v2c) (.slice v3 g.ln.length v3c)) := HWX12.out.below hb13
    have HGM13 : Hid (OwnF w13 bg (.slice g0 g.lk.length g0c) (.slice g1 g.kn.length g1c) (.slice g2 g.ow.length g2c) (.slice g3 g.ln.length g3c) gs1 gs2 gs3 (markF g 1)) := HGM12.out.below hb13
    have HGX13 : Hid (Bx4 w13 w5.heap.size (.slice g0 g.lk.length g0c) (.slice g1 g.kn.length g1c) (.slice g2 g.ow.length g2c) (.slice g3 g.ln.length g3c)) := HGX12.out.below hb13
    clear ho13 hb13 HA12 HS12 HW12 HWX12 HGM12 HGX12
    go_wp2_with fail
    refine (HI.out _ _ _ _ _ _ _ _ _ HO13.out).mono ?_
    rintro e w14 ⟨x14, y14, z14, l14, rfl, ⟨hs1, hs2, hs3', ho14⟩, hb14⟩
    obtain ⟨h0, h0c, rfl⟩ := ho14.lk.shape
    obtain ⟨h1, h1c, rfl⟩ := ho14.kn.shape
    obtain ⟨h2, h2c, rfl⟩ := ho14.ow.shape
    obtain ⟨h3, h3c, rfl⟩ := ho14.ln.shape
    have hB14 : Below w14.heap.size w14 (w14.alloc (.cells #[.slice h0 g.lk.length h0c, .slice h1 g.kn.length h1c, .slice h2 g.ow.length h2c, .slice h3 g.ln.length h3c] 31)) := (Below.refl _ w14).alloc (Nat.le_refl _) _
    have HS14 : Hid (Since w.heap.size w (w14.alloc (.cells #[.slice h0 g.lk.length h0c, .slice h1 g.kn.length h1c, .slice h2 g.ow.length h2c, .slice h3 g.ln.length h3c] 31))) := (HS13.out.step hb14).step hB14
    have HW14 : Hid (OwnF (w14.alloc (.cells #[.slice h0 g.lk.length h0c, .slice h1 g.kn.length h1c, .slice h2 g.ow.length h2c, .slice h3 g.ln.length h3c] 31)) bw (.slice v0 g.lk.length v0c) (.slice v1 g.kn.length v1c) (.slice v2 g.ow.length v2c) (.slice v3 g.ln.length v3c) ws1 ws2 ws3 g) := (HW13.out.below hb14).below hB14
    have HWX14 : Hid (Bx4 (w14.alloc (.cells #[.slice h0 g.lk.length h0c, .slice h1 g.kn.length h1c, .slice h2 g.ow.length h2c, .slice h3 g.ln.length h3c] 31)) w3.heap.size (.slice v0 g.lk.length v0c) (.slice v1 g.kn.length v1c) (.slice v2 g.ow.length v2c) (.slice v3 g.ln.length v3c)) := (HWX13.out.below hb14).below hB14
    have HGM14 : Hid (OwnF (w14.alloc (.cells #[.slice h0 g.lk.length h0c, .slice h1 g.kn.length h1c, .slice h2 g.ow.length h2c, .slice h3 g.ln.length h3c] 31)) bg (.slice g0 g.lk.length g0c) (.slice g1 g.kn.length g1c) (.slice g2 g.ow.length g2c) (.slice g3 g.ln.length g3c) gs1 gs2 gs3 (markF g 1)) := (HGM13.out.below hb14).below hB14
    have HGX14 : Hid (Bx4 (w14.alloc (.cells #[.slice h0 g.lk.length h0c, .slice h1 g.kn.length h1c, .slice h2 g.ow.length h2c, .slice h3 g.ln.length h3c] 31)) w5.heap.size (.slice g0 g.lk.length g0c) (.slice g1 g.kn.length g1c) (.slice g2 g.ow.length g2c) (.slice g3 g.ln.length g3c)) := (HGX13.out.below hb14).below hB14
    have HRH : Hid (ReadsF (w14.alloc (.cells #[.slice h0 g.lk.length h0c, .slice h1 g.kn.length h1c, .slice h2 g.ow.length h2c, .slice h3 g.ln.length h3c] 31)) (.slice h0 g.lk.length h0c) (.slice h1 g.kn.length h1c) (.slice h2 g.ow.length h2c) (.slice h3 g.ln.length h3c) g) := ho14.reads.below hB14
    have HHX : Hid (Bx4 (w14.alloc (.cells #[.slice h0 g.lk.length h0c, .slice h1 g.kn.length h1c, .slice h2 g.ow.length h2c, .slice h3 g.ln.length h3c] 31)) w14.heap.size (.slice h0 g.lk.length h0c) (.slice h1 g.kn.length h1c) (.slice h2 g.ow.length h2c) (.slice h3 g.ln.length h3c)) := Bx4.new _ _ _ _ _ _
    clear ho14 hb14 hB14 HO13 HS13 HW13 HWX13 HGM13 HGX13
    obtain ⟨m1, q10, q11, q12, q13, -⟩ := HWX14.out
    obtain ⟨m2, q20, q21, q22, q23, -⟩ := HHX.out
    go_wp2_with fail
    refine (eqFlood_same _ _ _ _ _ _ _ _ _ g HRH.out HW14.out.reads HG.out).mono ?_
    clear m1 q10 q11 q12 q13 m2 q20 q21 q22 q23
    rintro e w15 ⟨rfl, hb15⟩
    have HS15 : Hid (Since w.heap.size w w15) := HS14.out.step hb15
    have HGM15 : Hid (OwnF w15 bg (.slice g0 g.lk.length g0c) (.slice g1 g.kn.length g1c) (.slice g2 g.ow.length g2c) (.slice g3 g.ln.length g3c) gs1 gs2 gs3 (markF g 1)) := HGM14.out.below hb15
    have HGX15 : Hid (Bx4 w15 w5.heap.size (.slice g0 g.lk.length g0c) (.slice g1 g.kn.length g1c) (.slice g2 g.ow.length g2c) (.slice g3 g.ln.length g3c)) := HGX14.out.below hb15
    clear hb15 HS14 HW14 HWX14 HGM14 HGX14 HRH HHX
    obtain ⟨m2, q20, q21, q22, q23, -⟩ := HGX15.out
    go_wp2_with fail
    refine (CHF.out _ HGM15.out.reads).mono ?_
    clear m2 q20 q21 q22 q23
    rintro e w16 ⟨rfl, hb16⟩
    have HS16 : Hid (Since w.heap.size w w16) := HS15.out.step hb16
    clear hb16
    go_wp2
    go_ret
    exact ⟨rfl, HS16.out.1⟩

set_option maxRecDepth 100000 in
theorem contract (H : Type) (enc : TypeId × Value → H) (W : World) (base : Nat) (args : Array Value) (ds gs : List (DataW H)) (before : List MemPlace)
    (hval : ∀ (j : Nat) t v, Try.f4.params[j]? = some t → args[j]? = some v → Value.okWide Try.prog W .any base t v)
    (hW : DataW.Whole enc Try.prog Try.f4.params.toList Rows.fnExactSettleFloodSpec.vars false W args.toList ds gs before) :
    Calls Try.prog 4 args W fun e W' => ∃ v, e = .returned v ∧ Rows.fnExactSettleFloodSpec.post enc Try.prog Try.f4 false true false false W args v W' := by
  have hW' := hW
  obtain ⟨p, q, hA0, hV0, rfl, hfz, hnd⟩ := hW
  have hA : DataW.TrodAll enc Try.prog W 0 (fun _ => true) true Try.f4.params.toList args.toList ds p := hA0
  rw [Try.params4] at hA hval
  obtain ⟨v0, vs0, d0, ds0, p0, q0, hargs, rfl, rfl, h0, r0⟩ := trodAll_cons hA
  obtain ⟨rfl, rfl, rfl⟩ := trodAll_nil r0
  obtain rfl : args = #[v0] := by cases args; simp_all
  obtain ⟨rfl, rfl⟩ := trodVars_none hV0
  have k0 := h0
  have lt0 : ∀ x ∈ p0, x.block < W.heap.size := by obtain ⟨m, hm⟩ := k0; exact DataW.trod_lt m _ _ _ hm
  obtain ⟨x0, y0, z0, l0, f0, rfl, hr0, hm0⟩ := flood_of (hval 0 25 v0 rfl rfl) k0
  clear hA0 hV0
  refine (walk _ _ _ _ f0 W hr0 hm0).mono fun e W' ⟨he, bel⟩ => ?_
  subst he
  exact ⟨_, rfl, _, _, _, [], _, [], hW', trodAll_mk1 (shut_bool Try.underlying4 _), (trodAll_cons_mk (Below.trod laidOut (by kernel_rfl) (of_decide_eq_true (by kernel_rfl)) k0 bel lt0) trodAll_mk0), rfl, bel.frame _, fun h => by cases h⟩

set_option maxRecDepth 100000 in
theorem lifted (os : Os) (started : os.Started) (H : Type) (enc : TypeId × Value → H) :
    ReturnsInHanded {} Try.checked os 4 .any (Rows.fnExactSettleFloodSpec.pre6 enc Try.prog Try.f4 Rows.fnExactSettleFloodRow.domain false) (Rows.fnExactSettleFloodSpec.post enc Try.prog Try.f4 false true false false) := by
  refine returnsInHanded_of_change (C := Try.checked) own started (by kernel_rfl) Try.func4
    (ChangeSpec.witness6 (enc := enc) (C := Try.checked) false ⟨#[], #[.agg #[.slice none 0 0, .slice none 0 0, .slice none 0 0, .slice none 0 0]], []⟩ 8 (by kernel_rfl) (by kernel_rfl) (by kernel_rfl) (by kernel_rfl)) ?_
  intro W base args ds gs before hval hW _ _
  exact contract H enc W base args ds gs before hval hW

/-- The statement. -/
theorem said : Rows.FnExactSettleFloodSaid :=
  OpenClaim.holds_of_wide 4 Try.f4 rfl rfl rfl rfl rfl rfl rfl ⟨rfl, rfl, rfl, rfl, rfl⟩ rfl rfl rfl rfl rfl (by kernel_rfl) Try.func4 (by kernel_rfl)
    (of_decide_eq_true (by kernel_rfl)) (by unfold Func.isWrapper; first | (rw [if_pos (by decide +kernel)]; kernel_rfl) | (rw [if_neg (by decide +kernel)]; exact ⟨rfl, rfl⟩))
    (fun os started H enc _ => lifted os started H enc)
#print axioms said
end Go.Proofs.Ytkkamigaolejiax.fnExactSettleFlood
